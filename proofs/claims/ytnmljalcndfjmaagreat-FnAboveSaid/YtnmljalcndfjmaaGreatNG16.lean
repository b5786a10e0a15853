/- Several texts in one: BentPath, BentPut. -/
import Derived.Test.YtnmljalcndfjmaaGreatNG15
import Derived.Deep.AppendLies
namespace Go.Proofs.YtnmljalcndfjmaaGreat

section
open Go.RowKit

theorem OwS.keep {w w' : World} {d b o : Nat} {c : CN} {L : List (Addr × IntKind)} (h : OwS w d b o c L) (hb : w'.heap[b]? = w.heap[b]?) (hk : ∀ x ∈ L, w'.heap[x.1.block]? = w.heap[x.1.block]?) : OwS w' d b o c L := by
  obtain ⟨v0, v1, v2, v3, c0, c1, c2, c3, hr⟩ := h
  exact ⟨v0, v1, v2, v3, (World.cell?_of_block (w := w) (by exact hb)).trans c0, (World.cell?_of_block (w := w) (by exact hb)).trans c1, (World.cell?_of_block (w := w) (by exact hb)).trans c2, (World.cell?_of_block (w := w) (by exact hb)).trans c3, hr.keep hk⟩

/-- The kid number j of a slot. -/
theorem OwS.kid {w : World} {d b o : Nat} {c : CN} {L : List (Addr × IntKind)} (hw : OwS w d b o c L) {bk ok kn kc j : Nat} (h1 : w.cell? ⟨b, o + 3, none⟩ = some (.slice (some ⟨bk, ok, none⟩) kn kc)) (h2 : j < kn) :
    ∃ e L', d = e + 1 ∧ kn = c.kids.length ∧ OwS w e bk (ok + j * 4) (c.kids.getD j CN.zero) L' ∧ ((⟨bk, ok + j * 4, none⟩, .i64) : Addr × IntKind) ∈ L ∧ (∀ x ∈ L', x ∈ L) ∧ ((L.map (·.1)).Nodup → (L'.map (·.1)).Nodup ∧ (⟨bk, ok + j * 4, none⟩ : Addr) ∉ L'.map (·.1)) := by
  obtain ⟨v0, v1, v2, v3, c0, c1, c2, c3, hr⟩ := hw
  cases d with
  | zero => exact hr.elim
  | succ d =>
    obtain ⟨na, nn, nc, ra, rn, rc, ka, kn', kc', bn, on, br, or, bk', ok', Ls, hv, q1, q2, q3, rfl⟩ := hr
    simp only [Value.agg.injEq, Array.mk.injEq, List.cons.injEq, and_true] at hv
    obtain ⟨rfl, rfl, rfl, rfl⟩ := hv
    rw [h1] at c3
    simp only [Option.some.injEq, Value.slice.injEq] at c3
    obtain ⟨e1, rfl, rfl⟩ := c3
    rcases q3.cells with q | ⟨e2, q⟩
    · omega
    · rw [← e1] at e2
      simp only [Option.some.injEq, Addr.mk.injEq, and_true] at e2
      obtain ⟨rfl, rfl⟩ := e2
      refine ⟨d, Ls j, rfl, q3.len.symm, q j h2, ?_, fun x hx => ?_, fun hnd => ?_⟩
      · simp only [List.mem_append]; exact .inr (.inr (mem_leafK.2 ⟨j, h2, .inl rfl⟩))
      · simp only [List.mem_append]; exact .inr (.inr (mem_leafK.2 ⟨j, h2, .inr hx⟩))
      · rw [List.map_append, List.map_append] at hnd
        exact (leafK_apart (List.nodup_append.1 (List.nodup_append.1 hnd).2.1).2.1).1 j h2

theorem Path.keep {w w' : World} {b o b' o' : Nat} (h : Path w b o b' o') : ∀ {d : Nat} {c : CN} {L : List (Addr × IntKind)}, OwS w d b o c L → w'.heap[b]? = w.heap[b]? → (∀ x ∈ L, w'.heap[x.1.block]? = w.heap[x.1.block]?) → Path w' b o b' o' := by
  induction h with
  | here b o => intro d c L _ _ _; exact .here b o
  | @kid b o bk ok kn kc j b' o' h1 h2 _ ih =>
    intro d c L hw hb hk
    obtain ⟨e, L', _, _, hs, hm, hsub, _⟩ := hw.kid h1 h2
    exact .kid ((World.cell?_of_block (w := w) (by exact hb)).trans h1) h2 (ih hs (hk _ hm) (fun x hx => hk x (hsub x hx)))

/-- y at (b, o), in the tree under x at (X, 0). -/
structure Bent (w : World) (X D : Nat) (c : CN) (L : List (Addr × IntKind)) (b o d : Nat) (c' : CN) (L' : List (Addr × IntKind)) : Prop where
  own : OwS w D X 0 c L
  nd : (L.map (·.1)).Nodup
  nm : ∀ x ∈ L, x.1.block ≠ X
  path : Path w X 0 b o
  sub : OwS w d b o c' L'
  sin : ∀ x ∈ L', x ∈ L
  snd : (L'.map (·.1)).Nodup
  snm : (⟨b, o, none⟩ : Addr) ∉ L'.map (·.1)
  at_ : b = X ∨ ((⟨b, o, none⟩, .i64) : Addr × IntKind) ∈ L
  wh : ∀ u, w.cell? ⟨b, o + 3, none⟩ = some u → Wh w L d u
  bulk : c'.bulk ≤ c.bulk

theorem Bent.keep {w w' : World} {X D : Nat} {c : CN} {L : List (Addr × IntKind)} {b o d : Nat} {c' : CN} {L' : List (Addr × IntKind)} (h : Bent w X D c L b o d c' L') (hX : w'.heap[X]? = w.heap[X]?) (hk : ∀ x ∈ L, w'.heap[x.1.block]? = w.heap[x.1.block]?) : Bent w' X D c L b o d c' L' := by
  have hb : w'.heap[b]? = w.heap[b]? := by
    rcases h.at_ with e | e
    · rw [e]; exact hX
    · exact hk _ e
  exact ⟨h.own.keep hX hk, h.nd, h.nm, h.path.keep h.own hX hk, h.sub.keep hb (fun x hx => hk x (h.sin x hx)), h.sin, h.snd, h.snm, h.at_, fun u hu => (h.wh u (by rw [← hu]; exact (World.cell?_of_block (w := w) (by exact hb)).symm)).keep hk, h.bulk⟩

/-- One step down. -/
theorem Bent.step {w : World} {X D : Nat} {c : CN} {L : List (Addr × IntKind)} {b o d : Nat} {c' : CN} {L' : List (Addr × IntKind)} (h : Bent w X D c L b o d c' L') {bk ok kn kc j : Nat} (h1 : w.cell? ⟨b, o + 3, none⟩ = some (.slice (some ⟨bk, ok, none⟩) kn kc)) (h2 : j < kn) :
    ∃ e L'', d = e + 1 ∧ kn = c'.kids.length ∧ Bent w X D c L bk (ok + j * 4) e (c'.kids.getD j CN.zero) L'' := by
  obtain ⟨e, L'', rfl, hl, hs, hm, hsub, hnd⟩ := h.sub.kid h1 h2
  obtain ⟨n1, n2⟩ := hnd h.snd
  refine ⟨e, L'', rfl, hl, h.own, h.nd, h.nm, h.path.snoc h1 h2, hs, fun x hx => h.sin x (hsub x hx), n1, n2, .inr (h.sin _ hm), fun u hu => ?_, ?_⟩
  · obtain ⟨n, xs, q1, q2, q3⟩ := h.wh _ h1
    have hok : ok = 0 ∧ n = kn := by
      rcases q1.2 with ⟨q, _⟩ | ⟨g, cap, cur, q, _⟩
      · simp at q
      · simp only [Value.slice.injEq, Option.some.injEq, Addr.mk.injEq, and_true] at q
        exact ⟨q.1.2, q.2.1.symm⟩
    obtain ⟨rfl, rfl⟩ := hok
    refine q3 j u ?_
    rw [← hu, Nat.zero_add]
    have hw : w.ownsRow 0 30 4 (.slice (some ⟨bk, 0, none⟩) n kc) n xs := q1
    exact (hw.cellAt (j * 4 + 3) (by omega)).symm
  · have hb := h.bulk
    have := getD_bulk_le c'.kids j (by omega)
    have := c'.bulk_eq
    omega

theorem least_of {P : Nat → Prop} : ∀ {n : Nat}, P n → ∃ k, P k ∧ ∀ m, P m → k ≤ m := by
  intro n
  induction n using Nat.strongRecOn with
  | _ n ih =>
    intro h
    by_cases hq : ∃ m, m < n ∧ P m
    · obtain ⟨m, hm, hp⟩ := hq
      exact ih m hm hp
    · exact ⟨n, h, fun m hm => Nat.le_of_not_lt (fun hl => hq ⟨m, hl, hm⟩)⟩

open Classical in
noncomputable def dmin (P : Nat → Prop) : Nat := if h : ∃ k, P k ∧ ∀ m, P m → k ≤ m then Classical.choose h else 0
theorem dmin_spec {P : Nat → Prop} {n : Nat} (h : P n) : P (dmin P) ∧ dmin P ≤ n := by
  have hl := least_of h
  unfold dmin
  rw [dif_pos hl]
  exact ⟨(Classical.choose_spec hl).1, (Classical.choose_spec hl).2 n h⟩

/-- How deep the tree is below where a pointer points: the measure of the walk down. -/
noncomputable def dep (X D : Nat) (c : CN) (L : List (Addr × IntKind)) (w : World) (v : Value) : Nat := dmin (fun d => ∃ b o c' L', v = .pointer (some ⟨b, o, none⟩) ∧ Bent w X D c L b o d c' L')

theorem dep_spec {X D : Nat} {c : CN} {L : List (Addr × IntKind)} {w : World} {b o d : Nat} {c' : CN} {L' : List (Addr × IntKind)} (h : Bent w X D c L b o d c' L') :
    (∃ c' L', Bent w X D c L b o (dep X D c L w (.pointer (some ⟨b, o, none⟩))) c' L') ∧ dep X D c L w (.pointer (some ⟨b, o, none⟩)) ≤ d := by
  have := dmin_spec (P := fun d => ∃ b' o' c' L', Value.pointer (some ⟨b, o, none⟩) = .pointer (some ⟨b', o', none⟩) ∧ Bent w X D c L b' o' d c' L') ⟨b, o, c', L', rfl, h⟩
  obtain ⟨⟨b', o', c1, L1, e, hB⟩, h2⟩ := this
  simp only [Value.pointer.injEq, Option.some.injEq, Addr.mk.injEq, and_true] at e
  obtain ⟨rfl, rfl⟩ := e
  exact ⟨⟨c1, L1, hB⟩, h2⟩
end

section
open Go.RowKit

/-- All cells that a footprint needs are as they were. -/
def KcL (w w' : World) (L : List (Addr × IntKind)) : Prop := ∀ x ∈ L, ∀ i, i < 4 → ∀ v, w.cell? ⟨x.1.block, x.1.off + i, none⟩ = some v → w'.cell? ⟨x.1.block, x.1.off + i, none⟩ = some v

theorem OwB.kc {w w' : World} {a : Option Addr} {n cap : Nat} {zs : List Int} {b off : Nat} (h : OwB w a n cap zs b off) (hk : KcL w w' (leafB b off n)) : OwB w' a n cap zs b off := by
  obtain ⟨h1, h2, h3, h4⟩ := h
  refine ⟨h1, h2, h3, ?_⟩
  rcases h4 with h4 | ⟨e, h4⟩
  · exact .inl h4
  · exact .inr ⟨e, fun i hi => hk _ (mem_leafB.2 ⟨i, hi, rfl⟩) 0 (by omega) _ (h4 i hi)⟩

theorem OwC.kc {w w' : World} : ∀ {d : Nat} {v : Value} {c : CN} {L : List (Addr × IntKind)}, OwC w d v c L → KcL w w' L → OwC w' d v c L := by
  intro d
  induction d with
  | zero => intro v c L h _; exact h
  | succ d ih =>
    intro v c L h hk
    obtain ⟨na, nn, nc, ra, rn, rc, ka, kn, kc, bn, on, br, or, bk, ok, Ls, hv, h1, h2, h3, rfl⟩ := h
    refine ⟨na, nn, nc, ra, rn, rc, ka, kn, kc, bn, on, br, or, bk, ok, Ls, hv, h1.kc (fun x hx => hk x (by simp only [List.mem_append]; exact .inl hx)), h2.kc (fun x hx => hk x (by simp only [List.mem_append]; exact .inr (.inl hx))), ?_, rfl⟩
    obtain ⟨g1, g2, g3⟩ := h3
    refine ⟨g1, g2, ?_⟩
    rcases g3 with g3 | ⟨e, g3⟩
    · exact .inl g3
    · refine .inr ⟨e, fun i hi => ?_⟩
      obtain ⟨v0, v1, v2, v3, c0, c1, c2, c3, hr⟩ := g3 i hi
      have hs := hk (⟨bk, ok + i * 4, none⟩, .i64) (by simp only [List.mem_append]; exact .inr (.inr (mem_leafK.2 ⟨i, hi, .inl rfl⟩)))
      exact ⟨v0, v1, v2, v3, hs 0 (by omega) _ c0, hs 1 (by omega) _ c1, hs 2 (by omega) _ c2, hs 3 (by omega) _ c3, ih hr (fun x hx => hk x (by simp only [List.mem_append]; exact .inr (.inr (mem_leafK.2 ⟨i, hi, .inr hx⟩))))⟩

/-- The same of one slot. -/
def KcS (w w' : World) (b o : Nat) : Prop := ∀ i, i < 4 → ∀ v, w.cell? ⟨b, o + i, none⟩ = some v → w'.cell? ⟨b, o + i, none⟩ = some v

theorem OwS.kc {w w' : World} {d b o : Nat} {c : CN} {L : List (Addr × IntKind)} (h : OwS w d b o c L) (hb : KcS w w' b o) (hk : KcL w w' L) : OwS w' d b o c L := by
  obtain ⟨v0, v1, v2, v3, c0, c1, c2, c3, hr⟩ := h
  exact ⟨v0, v1, v2, v3, hb 0 (by omega) _ c0, hb 1 (by omega) _ c1, hb 2 (by omega) _ c2, hb 3 (by omega) _ c3, hr.kc hk⟩

theorem Path.kc {w w' : World} {b o b' o' : Nat} (h : Path w b o b' o') : ∀ {d : Nat} {c : CN} {L : List (Addr × IntKind)}, OwS w d b o c L → KcS w w' b o → KcL w w' L → Path w' b o b' o' := by
  induction h with
  | here b o => intro d c L _ _ _; exact .here b o
  | @kid b o bk ok kn kc j b' o' h1 h2 _ ih =>
    intro d c L hw hb hk
    obtain ⟨e, L', _, _, hs, hm, hsub, _⟩ := hw.kid h1 h2
    exact .kid (hb 3 (by omega) _ h1) h2 (ih hs (fun i hi v hv => hk _ hm i hi v hv) (fun x hx => hk x (hsub x hx)))

theorem OwS.slot {w : World} {d b o : Nat} {c : CN} {L : List (Addr × IntKind)} (h : OwS w d b o c L) : Slot w b o := by
  obtain ⟨v0, v1, v2, v3, c0, c1, c2, c3, hr⟩ := h
  exact slot_of hr c0 c1 c2 c3

/-- A cell of the slot is written. -/
theorem offS_set (w : World) (b o i : Nat) (v : Value) (hi : i < 4) : OffS w (w.setCell ⟨b, o + i, none⟩ v) b o := by
  intro q r hq _
  refine World.cell?_setCell_other _ _ _ _ (fun e => ?_)
  simp only [Addr.mk.injEq, and_true] at e
  omega

/-- y is put anew: x reads as some concept. -/
theorem put_any {lo : Nat} {w W : World} {X D b o : Nat} {c : CN} {L : List (Addr × IntKind)} (own : OwS w D X 0 c L) (nd : (L.map (·.1)).Nodup) (nm : ∀ x ∈ L, x.1.block ≠ X) (path : Path w X 0 b o) (hS : Slot w b o) (hO : OffS w W b o) (hL : ∀ x ∈ L, lo ≤ x.1.block ∧ x.1.block < W.heap.size)
    {E : Nat} {cn : CN} (hR : RdS lo W.heap.size W E b o cn) : ∃ c'', RdS lo W.heap.size W (D + E) X 0 c'' ∧ c''.bulk ≤ c.bulk + cn.bulk :=
  path.put hR hO hS own nd (fun hm => by obtain ⟨x, hx, e⟩ := List.mem_map.1 hm; exact nm x hx (by rw [e])) (fun x hx => hL x hx)

/-- What y's slot holds reads on behind a write to the slot. -/
theorem OwS.old {lo : Nat} {w W : World} {d b o : Nat} {c : CN} {L : List (Addr × IntKind)} (h : OwS w d b o c L) (hO : OffS w W b o) (hn : (⟨b, o, none⟩ : Addr) ∉ L.map (·.1)) {hi : Nat} (hL : ∀ x ∈ L, lo ≤ x.1.block ∧ x.1.block < hi) :
    ∃ na nn nc ra rn rc ka kn kc, w.cell? ⟨b, o, none⟩ = some (.int .i64 c.kind) ∧ w.cell? ⟨b, o + 1, none⟩ = some (.slice na nn nc) ∧ w.cell? ⟨b, o + 2, none⟩ = some (.slice ra rn rc) ∧ w.cell? ⟨b, o + 3, none⟩ = some (.slice ka kn kc) ∧ RdC lo hi W d (.agg #[.int .i64 c.kind, .slice na nn nc, .slice ra rn rc, .slice ka kn kc]) c := by
  have hS := h.slot
  obtain ⟨v0, v1, v2, v3, c0, c1, c2, c3, hr⟩ := h
  have hr' := (OwC.off hO hS hr (fun x hx e => hn (List.mem_map.2 ⟨x, hx, e⟩))).rd (lo := lo) (hi := hi) (fun x hx => hL x hx)
  obtain ⟨rfl, ⟨na, nn, nc, rfl⟩, ⟨ra, rn, rc, rfl⟩, ⟨ka, kn, kc, rfl⟩⟩ := hr.form
  exact ⟨na, nn, nc, ra, rn, rc, ka, kn, kc, c0, c1, c2, c3, hr'⟩

theorem RdC.setKind {lo hi d : Nat} {w : World} {v1 v2 v3 : Value} {k : Int} {c : CN} (h : RdC lo hi w d (.agg #[.int .i64 k, v1, v2, v3]) c) (k' : Int) : RdC lo hi w d (.agg #[.int .i64 k', v1, v2, v3]) (.mk k' c.name c.role c.kids) := by
  cases d with
  | zero => exact h.elim
  | succ d =>
    obtain ⟨na, nn, nc, ra, rn, rc, ka, kn, kc, hv, q1, q2, q3⟩ := h
    simp only [Value.agg.injEq, Array.mk.injEq, List.cons.injEq, and_true] at hv
    obtain ⟨_, rfl, rfl, rfl⟩ := hv
    exact ⟨na, nn, nc, ra, rn, rc, ka, kn, kc, rfl, q1, q2, q3⟩

theorem RdC.setName {lo hi d : Nat} {w : World} {v0 v1 v2 v3 : Value} {c : CN} (h : RdC lo hi w d (.agg #[v0, v1, v2, v3]) c) {a : Option Addr} {n cap : Nat} {zs : List Int} (hz : Rd lo hi w a n cap zs) : RdC lo hi w d (.agg #[v0, .slice a n cap, v2, v3]) (.mk c.kind zs c.role c.kids) := by
  cases d with
  | zero => exact h.elim
  | succ d =>
    obtain ⟨na, nn, nc, ra, rn, rc, ka, kn, kc, hv, q1, q2, q3⟩ := h
    simp only [Value.agg.injEq, Array.mk.injEq, List.cons.injEq, and_true] at hv
    obtain ⟨rfl, rfl, rfl, rfl⟩ := hv
    exact ⟨a, n, cap, ra, rn, rc, ka, kn, kc, rfl, hz, q2, q3⟩

theorem RdC.setRole {lo hi d : Nat} {w : World} {v0 v1 v2 v3 : Value} {c : CN} (h : RdC lo hi w d (.agg #[v0, v1, v2, v3]) c) {a : Option Addr} {n cap : Nat} {zs : List Int} (hz : Rd lo hi w a n cap zs) : RdC lo hi w d (.agg #[v0, v1, .slice a n cap, v3]) (.mk c.kind c.name zs c.kids) := by
  cases d with
  | zero => exact h.elim
  | succ d =>
    obtain ⟨na, nn, nc, ra, rn, rc, ka, kn, kc, hv, q1, q2, q3⟩ := h
    simp only [Value.agg.injEq, Array.mk.injEq, List.cons.injEq, and_true] at hv
    obtain ⟨rfl, rfl, rfl, rfl⟩ := hv
    exact ⟨na, nn, nc, a, n, cap, ka, kn, kc, rfl, q1, hz, q3⟩

theorem RdC.setKids {lo hi d : Nat} {w : World} {v0 v1 v2 v3 : Value} {c : CN} (h : RdC lo hi w (d + 1) (.agg #[v0, v1, v2, v3]) c) {a : Option Addr} {n cap : Nat} {cs : List CN} (hz : RdL (RdC lo hi w d) lo hi w a n cap cs) : RdC lo hi w (d + 1) (.agg #[v0, v1, v2, .slice a n cap]) (.mk c.kind c.name c.role cs) := by
  obtain ⟨na, nn, nc, ra, rn, rc, ka, kn, kc, hv, q1, q2, q3⟩ := h
  simp only [Value.agg.injEq, Array.mk.injEq, List.cons.injEq, and_true] at hv
  obtain ⟨rfl, rfl, rfl, rfl⟩ := hv
  exact ⟨na, nn, nc, ra, rn, rc, a, n, cap, rfl, q1, q2, hz⟩

/-- A kind is written. -/
theorem put_kind {lo : Nat} {w : World} {X D b o d : Nat} {c c' : CN} {L L' : List (Addr × IntKind)} (h : Bent w X D c L b o d c' L') (hL : ∀ x ∈ L, lo ≤ x.1.block ∧ x.1.block < w.heap.size) (k : Int) :
    ∃ c'', RdS lo w.heap.size (w.setCell ⟨b, o, none⟩ (.int .i64 k)) (D + d) X 0 c'' ∧ c''.bulk ≤ c.bulk + c'.bulk := by
  have hO : OffS w (w.setCell ⟨b, o, none⟩ (.int .i64 k)) b o := offS_set w b o 0 _ (by omega)
  obtain ⟨na, nn, nc, ra, rn, rc, ka, kn, kc, c0, c1, c2, c3, hr⟩ := h.sub.old hO h.snm (hi := w.heap.size) (fun x hx => hL x (h.sin x hx))
  have hR : RdS lo w.heap.size (w.setCell ⟨b, o, none⟩ (.int .i64 k)) d b o (.mk k c'.name c'.role c'.kids) := by
    refine ⟨_, _, _, _, World.cell?_setCell_same _ _ _ c0, ?_, ?_, ?_, hr.setKind k⟩
    · rw [World.cell?_setCell_other _ _ _ _ (by simp)]; exact c1
    · rw [World.cell?_setCell_other _ _ _ _ (by simp)]; exact c2
    · rw [World.cell?_setCell_other _ _ _ _ (by simp)]; exact c3
  have hs : (w.setCell ⟨b, o, none⟩ (.int .i64 k)).heap.size = w.heap.size := by simp
  have := put_any (W := w.setCell ⟨b, o, none⟩ (.int .i64 k)) h.own h.nd h.nm h.path h.sub.slot hO (by rw [hs]; exact hL) (by rw [hs]; exact hR)
  rw [hs] at this
  obtain ⟨c'', q1, q2⟩ := this
  refine ⟨c'', q1, ?_⟩
  have := c'.bulk_eq
  rw [CN.bulk] at q2
  omega

/-- A name is written. -/
theorem put_name {lo : Nat} {w : World} {X D b o d : Nat} {c c' : CN} {L L' : List (Addr × IntKind)} (h : Bent w X D c L b o d c' L') (hL : ∀ x ∈ L, lo ≤ x.1.block ∧ x.1.block < w.heap.size) {a : Option Addr} {n cap : Nat} {zs : List Int} (hz : Rd lo w.heap.size (w.setCell ⟨b, o + 1, none⟩ (.slice a n cap)) a n cap zs) :
    ∃ c'', RdS lo w.heap.size (w.setCell ⟨b, o + 1, none⟩ (.slice a n cap)) (D + d) X 0 c'' ∧ c''.bulk ≤ c.bulk + (c'.bulk + zs.length) := by
  have hO : OffS w (w.setCell ⟨b, o + 1, none⟩ (.slice a n cap)) b o := offS_set w b o 1 _ (by omega)
  obtain ⟨na, nn, nc, ra, rn, rc, ka, kn, kc, c0, c1, c2, c3, hr⟩ := h.sub.old hO h.snm (hi := w.heap.size) (fun x hx => hL x (h.sin x hx))
  have hR : RdS lo w.heap.size (w.setCell ⟨b, o + 1, none⟩ (.slice a n cap)) d b o (.mk c'.kind zs c'.role c'.kids) := by
    refine ⟨_, _, _, _, ?_, World.cell?_setCell_same _ _ _ c1, ?_, ?_, hr.setName hz⟩
    · rw [World.cell?_setCell_other _ _ _ _ (by simp)]; exact c0
    · rw [World.cell?_setCell_other _ _ _ _ (by simp)]; exact c2
    · rw [World.cell?_setCell_other _ _ _ _ (by simp)]; exact c3
  have hs : (w.setCell ⟨b, o + 1, none⟩ (.slice a n cap)).heap.size = w.heap.size := by simp
  have := put_any (W := w.setCell ⟨b, o + 1, none⟩ (.slice a n cap)) h.own h.nd h.nm h.path h.sub.slot hO (by rw [hs]; exact hL) (by rw [hs]; exact hR)
  rw [hs] at this
  obtain ⟨c'', q1, q2⟩ := this
  refine ⟨c'', q1, ?_⟩
  have := c'.bulk_eq
  rw [CN.bulk] at q2
  omega

/-- A role is written. -/
theorem put_role {lo : Nat} {w : World} {X D b o d : Nat} {c c' : CN} {L L' : List (Addr × IntKind)} (h : Bent w X D c L b o d c' L') (hL : ∀ x ∈ L, lo ≤ x.1.block ∧ x.1.block < w.heap.size) {a : Option Addr} {n cap : Nat} {zs : List Int} (hz : Rd lo w.heap.size (w.setCell ⟨b, o + 2, none⟩ (.slice a n cap)) a n cap zs) :
    ∃ c'', RdS lo w.heap.size (w.setCell ⟨b, o + 2, none⟩ (.slice a n cap)) (D + d) X 0 c'' ∧ c''.bulk ≤ c.bulk + (c'.bulk + zs.length) := by
  have hO : OffS w (w.setCell ⟨b, o + 2, none⟩ (.slice a n cap)) b o := offS_set w b o 2 _ (by omega)
  obtain ⟨na, nn, nc, ra, rn, rc, ka, kn, kc, c0, c1, c2, c3, hr⟩ := h.sub.old hO h.snm (hi := w.heap.size) (fun x hx => hL x (h.sin x hx))
  have hR : RdS lo w.heap.size (w.setCell ⟨b, o + 2, none⟩ (.slice a n cap)) d b o (.mk c'.kind c'.name zs c'.kids) := by
    refine ⟨_, _, _, _, ?_, ?_, World.cell?_setCell_same _ _ _ c2, ?_, hr.setRole hz⟩
    · rw [World.cell?_setCell_other _ _ _ _ (by simp)]; exact c0
    · rw [World.cell?_setCell_other _ _ _ _ (by simp)]; exact c1
    · rw [World.cell?_setCell_other _ _ _ _ (by simp)]; exact c3
  have hs : (w.setCell ⟨b, o + 2, none⟩ (.slice a n cap)).heap.size = w.heap.size := by simp
  have := put_any (W := w.setCell ⟨b, o + 2, none⟩ (.slice a n cap)) h.own h.nd h.nm h.path h.sub.slot hO (by rw [hs]; exact hL) (by rw [hs]; exact hR)
  rw [hs] at this
  obtain ⟨c'', q1, q2⟩ := this
  refine ⟨c'', q1, ?_⟩
  have := c'.bulk_eq
  rw [CN.bulk] at q2
  omega
end

end Go.Proofs.YtnmljalcndfjmaaGreat
