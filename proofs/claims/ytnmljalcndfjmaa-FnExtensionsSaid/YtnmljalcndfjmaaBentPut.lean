/- What is put into y's slot, and how x reads then. -/
import Derived.Test.YtnmljalcndfjmaaNG23
import Derived.Deep.AppendLies
namespace Go.Proofs.Ytnmljalcndfjmaa
open Go.RowKit

/-- All cells that a footprint needs are as they were. -/
def KcL (w w' : World) (L : List (Addr × IntKind)) : Prop := ∀ x ∈ L, ∀ i, i < 4 → ∀ v, w.cell? ⟨x.1.block, x.1.off + i, none⟩ = some v → w'.cell? ⟨x.1.block, x.1.off + i, none⟩ = some v

theorem OwB.kc {w w' : World} {a : Option Addr} {n cap : Nat} {zs : List Int} {b off : Nat} (h : OwB w a n cap zs b off) (hk : KcL w w' (leafB b off n)) : OwB w' a n cap zs b off := by
  obtain ⟨h1, h2, h3, h4⟩ := h
  refine ⟨h1, h2, h3, ?_⟩
  rcases h4 with h4 | ⟨e, h4⟩
  · exact .inl h4
  · exact .inr ⟨e, fun i hi => hk _ (mem_leafB.2 ⟨i, hi, rfl⟩) 0 (by omega) _ (h4 i hi)⟩

theorem OwC.kc {w w' : World} : ∀ {d : Nat} {v : Value} {c : CN} {L : List (Addr × IntKind)}, OwC w d v c L → KcL w w' L → OwC w' d v c L := by
  intro d
  induction d with
  | zero => intro v c L h _; exact h
  | succ d ih =>
    intro v c L h hk
    obtain ⟨na, nn, nc, ra, rn, rc, ka, kn, kc, bn, on, br, or, bk, ok, Ls, hv, h1, h2, h3, rfl⟩ := h
    refine ⟨na, nn, nc, ra, rn, rc, ka, kn, kc, bn, on, br, or, bk, ok, Ls, hv, h1.kc (fun x hx => hk x (by simp only [List.mem_append]; exact .inl hx)), h2.kc (fun x hx => hk x (by simp only [List.mem_append]; exact .inr (.inl hx))), ?_, rfl⟩
    obtain ⟨g1, g2, g3⟩ := h3
    refine ⟨g1, g2, ?_⟩
    rcases g3 with g3 | ⟨e, g3⟩
    · exact .inl g3
    · refine .inr ⟨e, fun i hi => ?_⟩
      obtain ⟨v0, v1, v2, v3, c0, c1, c2, c3, hr⟩ := g3 i hi
      have hs := hk (⟨bk, ok + i * 4, none⟩, .i64) (by simp only [List.mem_append]; exact .inr (.inr (mem_leafK.2 ⟨i, hi, .inl rfl⟩)))
      exact ⟨v0, v1, v2, v3, hs 0 (by omega) _ c0, hs 1 (by omega) _ c1, hs 2 (by omega) _ c2, hs 3 (by omega) _ c3, ih hr (fun x hx => hk x (by simp only [List.mem_append]; exact .inr (.inr (mem_leafK.2 ⟨i, hi, .inr hx⟩))))⟩

/-- The same of one slot. -/
def KcS (w w' : World) (b o : Nat) : Prop := ∀ i, i < 4 → ∀ v, w.cell? ⟨b, o + i, none⟩ = some v → w'.cell? ⟨b, o + i, none⟩ = some v

theorem OwS.kc {w w' : World} {d b o : Nat} {c : CN} {L : List (Addr × IntKind)} (h : OwS w d b o c L) (hb : KcS w w' b o) (hk : KcL w w' L) : OwS w' d b o c L := by
  obtain ⟨v0, v1, v2, v3, c0, c1, c2, c3, hr⟩ := h
  exact ⟨v0, v1, v2, v3, hb 0 (by omega) _ c0, hb 1 (by omega) _ c1, hb 2 (by omega) _ c2, hb 3 (by omega) _ c3, hr.kc hk⟩

theorem Path.kc {w w' : World} {b o b' o' : Nat} (h : Path w b o b' o') : ∀ {d : Nat} {c : CN} {L : List (Addr × IntKind)}, OwS w d b o c L → KcS w w' b o → KcL w w' L → Path w' b o b' o' := by
  induction h with
  | here b o => intro d c L _ _ _; exact .here b o
  | @kid b o bk ok kn kc j b' o' h1 h2 _ ih =>
    intro d c L hw hb hk
    obtain ⟨e, L', _, _, hs, hm, hsub, _⟩ := hw.kid h1 h2
    exact .kid (hb 3 (by omega) _ h1) h2 (ih hs (fun i hi v hv => hk _ hm i hi v hv) (fun x hx => hk x (hsub x hx)))

theorem OwS.slot {w : World} {d b o : Nat} {c : CN} {L : List (Addr × IntKind)} (h : OwS w d b o c L) : Slot w b o := by
  obtain ⟨v0, v1, v2, v3, c0, c1, c2, c3, hr⟩ := h
  exact slot_of hr c0 c1 c2 c3

/-- A cell of the slot is written. -/
theorem offS_set (w : World) (b o i : Nat) (v : Value) (hi : i < 4) : OffS w (w.setCell ⟨b, o + i, none⟩ v) b o := by
  intro q r hq _
  refine World.cell?_setCell_other _ _ _ _ (fun e => ?_)
  simp only [Addr.mk.injEq, and_true] at e
  omega

/-- y is put anew: x reads as some concept. -/
theorem put_any {lo : Nat} {w W : World} {X D b o : Nat} {c : CN} {L : List (Addr × IntKind)} (own : OwS w D X 0 c L) (nd : (L.map (·.1)).Nodup) (nm : ∀ x ∈ L, x.1.block ≠ X) (path : Path w X 0 b o) (hS : Slot w b o) (hO : OffS w W b o) (hL : ∀ x ∈ L, lo ≤ x.1.block ∧ x.1.block < W.heap.size)
    {E : Nat} {cn : CN} (hR : RdS lo W.heap.size W E b o cn) : ∃ c'', RdS lo W.heap.size W (D + E) X 0 c'' ∧ c''.bulk ≤ c.bulk + cn.bulk :=
  path.put hR hO hS own nd (fun hm => by obtain ⟨x, hx, e⟩ := List.mem_map.1 hm; exact nm x hx (by rw [e])) (fun x hx => hL x hx)

/-- What y's slot holds reads on behind a write to the slot. -/
theorem OwS.old {lo : Nat} {w W : World} {d b o : Nat} {c : CN} {L : List (Addr × IntKind)} (h : OwS w d b o c L) (hO : OffS w W b o) (hn : (⟨b, o, none⟩ : Addr) ∉ L.map (·.1)) {hi : Nat} (hL : ∀ x ∈ L, lo ≤ x.1.block ∧ x.1.block < hi) :
    ∃ na nn nc ra rn rc ka kn kc, w.cell? ⟨b, o, none⟩ = some (.int .i64 c.kind) ∧ w.cell? ⟨b, o + 1, none⟩ = some (.slice na nn nc) ∧ w.cell? ⟨b, o + 2, none⟩ = some (.slice ra rn rc) ∧ w.cell? ⟨b, o + 3, none⟩ = some (.slice ka kn kc) ∧ RdC lo hi W d (.agg #[.int .i64 c.kind, .slice na nn nc, .slice ra rn rc, .slice ka kn kc]) c := by
  have hS := h.slot
  obtain ⟨v0, v1, v2, v3, c0, c1, c2, c3, hr⟩ := h
  have hr' := (OwC.off hO hS hr (fun x hx e => hn (List.mem_map.2 ⟨x, hx, e⟩))).rd (lo := lo) (hi := hi) (fun x hx => hL x hx)
  obtain ⟨rfl, ⟨na, nn, nc, rfl⟩, ⟨ra, rn, rc, rfl⟩, ⟨ka, kn, kc, rfl⟩⟩ := hr.form
  exact ⟨na, nn, nc, ra, rn, rc, ka, kn, kc, c0, c1, c2, c3, hr'⟩

theorem RdC.setKind {lo hi d : Nat} {w : World} {v1 v2 v3 : Value} {k : Int} {c : CN} (h : RdC lo hi w d (.agg #[.int .i64 k, v1, v2, v3]) c) (k' : Int) : RdC lo hi w d (.agg #[.int .i64 k', v1, v2, v3]) (.mk k' c.name c.role c.kids) := by
  cases d with
  | zero => exact h.elim
  | succ d =>
    obtain ⟨na, nn, nc, ra, rn, rc, ka, kn, kc, hv, q1, q2, q3⟩ := h
    simp only [Value.agg.injEq, Array.mk.injEq, List.cons.injEq, and_true] at hv
    obtain ⟨_, rfl, rfl, rfl⟩ := hv
    exact ⟨na, nn, nc, ra, rn, rc, ka, kn, kc, rfl, q1, q2, q3⟩

theorem RdC.setName {lo hi d : Nat} {w : World} {v0 v1 v2 v3 : Value} {c : CN} (h : RdC lo hi w d (.agg #[v0, v1, v2, v3]) c) {a : Option Addr} {n cap : Nat} {zs : List Int} (hz : Rd lo hi w a n cap zs) : RdC lo hi w d (.agg #[v0, .slice a n cap, v2, v3]) (.mk c.kind zs c.role c.kids) := by
  cases d with
  | zero => exact h.elim
  | succ d =>
    obtain ⟨na, nn, nc, ra, rn, rc, ka, kn, kc, hv, q1, q2, q3⟩ := h
    simp only [Value.agg.injEq, Array.mk.injEq, List.cons.injEq, and_true] at hv
    obtain ⟨rfl, rfl, rfl, rfl⟩ := hv
    exact ⟨a, n, cap, ra, rn, rc, ka, kn, kc, rfl, hz, q2, q3⟩

theorem RdC.setRole {lo hi d : Nat} {w : World} {v0 v1 v2 v3 : Value} {c : CN} (h : RdC lo hi w d (.agg #[v0, v1, v2, v3]) c) {a : Option Addr} {n cap : Nat} {zs : List Int} (hz : Rd lo hi w a n cap zs) : RdC lo hi w d (.agg #[v0, v1, .slice a n cap, v3]) (.mk c.kind c.name zs c.kids) := by
  cases d with
  | zero => exact h.elim
  | succ d =>
    obtain ⟨na, nn, nc, ra, rn, rc, ka, kn, kc, hv, q1, q2, q3⟩ := h
    simp only [Value.agg.injEq, Array.mk.injEq, List.cons.injEq, and_true] at hv
    obtain ⟨rfl, rfl, rfl, rfl⟩ := hv
    exact ⟨na, nn, nc, a, n, cap, ka, kn, kc, rfl, q1, hz, q3⟩

theorem RdC.setKids {lo hi d : Nat} {w : World} {v0 v1 v2 v3 : Value} {c : CN} (h : RdC lo hi w (d + 1) (.agg #[v0, v1, v2, v3]) c) {a : Option Addr} {n cap : Nat} {cs : List CN} (hz : RdL (RdC lo hi w d) lo hi w a n cap cs) : RdC lo hi w (d + 1) (.agg #[v0, v1, v2, .slice a n cap]) (.mk c.kind c.name c.role cs) := by
  obtain ⟨na, nn, nc, ra, rn, rc, ka, kn, kc, hv, q1, q2, q3⟩ := h
  simp only [Value.agg.injEq, Array.mk.injEq, List.cons.injEq, and_true] at hv
  obtain ⟨rfl, rfl, rfl, rfl⟩ := hv
  exact ⟨na, nn, nc, ra, rn, rc, a, n, cap, rfl, q1, q2, hz⟩

/-- A kind is written. -/
theorem put_kind {lo : Nat} {w : World} {X D b o d : Nat} {c c' : CN} {L L' : List (Addr × IntKind)} (h : Bent w X D c L b o d c' L') (hL : ∀ x ∈ L, lo ≤ x.1.block ∧ x.1.block < w.heap.size) (k : Int) :
    ∃ c'', RdS lo w.heap.size (w.setCell ⟨b, o, none⟩ (.int .i64 k)) (D + d) X 0 c'' ∧ c''.bulk ≤ c.bulk + c'.bulk := by
  have hO : OffS w (w.setCell ⟨b, o, none⟩ (.int .i64 k)) b o := offS_set w b o 0 _ (by omega)
  obtain ⟨na, nn, nc, ra, rn, rc, ka, kn, kc, c0, c1, c2, c3, hr⟩ := h.sub.old hO h.snm (hi := w.heap.size) (fun x hx => hL x (h.sin x hx))
  have hR : RdS lo w.heap.size (w.setCell ⟨b, o, none⟩ (.int .i64 k)) d b o (.mk k c'.name c'.role c'.kids) := by
    refine ⟨_, _, _, _, World.cell?_setCell_same _ _ _ c0, ?_, ?_, ?_, hr.setKind k⟩
    · rw [World.cell?_setCell_other _ _ _ _ (by simp)]; exact c1
    · rw [World.cell?_setCell_other _ _ _ _ (by simp)]; exact c2
    · rw [World.cell?_setCell_other _ _ _ _ (by simp)]; exact c3
  have hs : (w.setCell ⟨b, o, none⟩ (.int .i64 k)).heap.size = w.heap.size := by simp
  have := put_any (W := w.setCell ⟨b, o, none⟩ (.int .i64 k)) h.own h.nd h.nm h.path h.sub.slot hO (by rw [hs]; exact hL) (by rw [hs]; exact hR)
  rw [hs] at this
  obtain ⟨c'', q1, q2⟩ := this
  refine ⟨c'', q1, ?_⟩
  have := c'.bulk_eq
  rw [CN.bulk] at q2
  omega

/-- A name is written. -/
theorem put_name {lo : Nat} {w : World} {X D b o d : Nat} {c c' : CN} {L L' : List (Addr × IntKind)} (h : Bent w X D c L b o d c' L') (hL : ∀ x ∈ L, lo ≤ x.1.block ∧ x.1.block < w.heap.size) {a : Option Addr} {n cap : Nat} {zs : List Int} (hz : Rd lo w.heap.size (w.setCell ⟨b, o + 1, none⟩ (.slice a n cap)) a n cap zs) :
    ∃ c'', RdS lo w.heap.size (w.setCell ⟨b, o + 1, none⟩ (.slice a n cap)) (D + d) X 0 c'' ∧ c''.bulk ≤ c.bulk + (c'.bulk + zs.length) := by
  have hO : OffS w (w.setCell ⟨b, o + 1, none⟩ (.slice a n cap)) b o := offS_set w b o 1 _ (by omega)
  obtain ⟨na, nn, nc, ra, rn, rc, ka, kn, kc, c0, c1, c2, c3, hr⟩ := h.sub.old hO h.snm (hi := w.heap.size) (fun x hx => hL x (h.sin x hx))
  have hR : RdS lo w.heap.size (w.setCell ⟨b, o + 1, none⟩ (.slice a n cap)) d b o (.mk c'.kind zs c'.role c'.kids) := by
    refine ⟨_, _, _, _, ?_, World.cell?_setCell_same _ _ _ c1, ?_, ?_, hr.setName hz⟩
    · rw [World.cell?_setCell_other _ _ _ _ (by simp)]; exact c0
    · rw [World.cell?_setCell_other _ _ _ _ (by simp)]; exact c2
    · rw [World.cell?_setCell_other _ _ _ _ (by simp)]; exact c3
  have hs : (w.setCell ⟨b, o + 1, none⟩ (.slice a n cap)).heap.size = w.heap.size := by simp
  have := put_any (W := w.setCell ⟨b, o + 1, none⟩ (.slice a n cap)) h.own h.nd h.nm h.path h.sub.slot hO (by rw [hs]; exact hL) (by rw [hs]; exact hR)
  rw [hs] at this
  obtain ⟨c'', q1, q2⟩ := this
  refine ⟨c'', q1, ?_⟩
  have := c'.bulk_eq
  rw [CN.bulk] at q2
  omega

/-- A role is written. -/
theorem put_role {lo : Nat} {w : World} {X D b o d : Nat} {c c' : CN} {L L' : List (Addr × IntKind)} (h : Bent w X D c L b o d c' L') (hL : ∀ x ∈ L, lo ≤ x.1.block ∧ x.1.block < w.heap.size) {a : Option Addr} {n cap : Nat} {zs : List Int} (hz : Rd lo w.heap.size (w.setCell ⟨b, o + 2, none⟩ (.slice a n cap)) a n cap zs) :
    ∃ c'', RdS lo w.heap.size (w.setCell ⟨b, o + 2, none⟩ (.slice a n cap)) (D + d) X 0 c'' ∧ c''.bulk ≤ c.bulk + (c'.bulk + zs.length) := by
  have hO : OffS w (w.setCell ⟨b, o + 2, none⟩ (.slice a n cap)) b o := offS_set w b o 2 _ (by omega)
  obtain ⟨na, nn, nc, ra, rn, rc, ka, kn, kc, c0, c1, c2, c3, hr⟩ := h.sub.old hO h.snm (hi := w.heap.size) (fun x hx => hL x (h.sin x hx))
  have hR : RdS lo w.heap.size (w.setCell ⟨b, o + 2, none⟩ (.slice a n cap)) d b o (.mk c'.kind c'.name zs c'.kids) := by
    refine ⟨_, _, _, _, ?_, ?_, World.cell?_setCell_same _ _ _ c2, ?_, hr.setRole hz⟩
    · rw [World.cell?_setCell_other _ _ _ _ (by simp)]; exact c0
    · rw [World.cell?_setCell_other _ _ _ _ (by simp)]; exact c1
    · rw [World.cell?_setCell_other _ _ _ _ (by simp)]; exact c3
  have hs : (w.setCell ⟨b, o + 2, none⟩ (.slice a n cap)).heap.size = w.heap.size := by simp
  have := put_any (W := w.setCell ⟨b, o + 2, none⟩ (.slice a n cap)) h.own h.nd h.nm h.path h.sub.slot hO (by rw [hs]; exact hL) (by rw [hs]; exact hR)
  rw [hs] at this
  obtain ⟨c'', q1, q2⟩ := this
  refine ⟨c'', q1, ?_⟩
  have := c'.bulk_eq
  rw [CN.bulk] at q2
  omega

end Go.Proofs.Ytnmljalcndfjmaa
