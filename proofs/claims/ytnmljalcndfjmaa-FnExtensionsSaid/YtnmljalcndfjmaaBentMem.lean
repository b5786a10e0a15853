/- A concept's slot in memory is written anew: what else is read stays, and the tree around it reads as some concept. -/
import Derived.Test.YtnmljalcndfjmaaReadS5
namespace Go.Proofs.Ytnmljalcndfjmaa
open Go.RowKit

/-- A slot: a kind and three slices. -/
structure Slot (w : World) (b o : Nat) : Prop where
  k : ∃ n, w.cell? ⟨b, o, none⟩ = some (.int .i64 n)
  s1 : ∃ a n c, w.cell? ⟨b, o + 1, none⟩ = some (.slice a n c)
  s2 : ∃ a n c, w.cell? ⟨b, o + 2, none⟩ = some (.slice a n c)
  s3 : ∃ a n c, w.cell? ⟨b, o + 3, none⟩ = some (.slice a n c)

/-- All cells but those of one slot are as they were. -/
def OffS (w W : World) (b o : Nat) : Prop := ∀ q r : Nat, (q ≠ b ∨ r < o ∨ o + 4 ≤ r) → (∃ v, w.cell? ⟨q, r, none⟩ = some v) → W.cell? ⟨q, r, none⟩ = w.cell? ⟨q, r, none⟩

theorem Slot.apart {w : World} {b o o' : Nat} (h : Slot w b o) (k : Slot w b o') (hne : o' ≠ o) : o' + 4 ≤ o ∨ o + 4 ≤ o' := by
  apply Classical.byContradiction
  intro hn
  obtain ⟨⟨n, h0⟩, ⟨_, _, _, h1⟩, ⟨_, _, _, h2⟩, ⟨_, _, _, h3⟩⟩ := h
  obtain ⟨⟨m, k0⟩, ⟨_, _, _, k1⟩, ⟨_, _, _, k2⟩, ⟨_, _, _, k3⟩⟩ := k
  have : o' = o + 1 ∨ o' = o + 2 ∨ o' = o + 3 ∨ o = o' + 1 ∨ o = o' + 2 ∨ o = o' + 3 := by omega
  rcases this with e | e | e | e | e | e <;> subst e
  · rw [h1] at k0; simp at k0
  · rw [h2] at k0; simp at k0
  · rw [h3] at k0; simp at k0
  · rw [k1] at h0; simp at h0
  · rw [k2] at h0; simp at h0
  · rw [k3] at h0; simp at h0

theorem OffS.byte {w W : World} {b o q r : Nat} {z : Int} (h : OffS w W b o) (hS : Slot w b o) (hc : w.cell? ⟨q, r, none⟩ = some (.int .u8 z)) : W.cell? ⟨q, r, none⟩ = some (.int .u8 z) := by
  rw [h q r ?_ ⟨_, hc⟩]
  · exact hc
  · apply Classical.byContradiction
    intro hn
    obtain ⟨⟨n, h0⟩, ⟨_, _, _, h1⟩, ⟨_, _, _, h2⟩, ⟨_, _, _, h3⟩⟩ := hS
    have e : q = b ∧ (r = o ∨ r = o + 1 ∨ r = o + 2 ∨ r = o + 3) := by omega
    obtain ⟨rfl, e⟩ := e
    rcases e with e | e | e | e <;> subst e
    · rw [hc] at h0; simp at h0
    · rw [hc] at h1; simp at h1
    · rw [hc] at h2; simp at h2
    · rw [hc] at h3; simp at h3

theorem OffS.slot {w W : World} {b o q r i : Nat} (h : OffS w W b o) (hS : Slot w b o) (hq : Slot w q r) (hne : q ≠ b ∨ r ≠ o) (hi : i < 4) (hv : ∃ v, w.cell? ⟨q, r + i, none⟩ = some v) : W.cell? ⟨q, r + i, none⟩ = w.cell? ⟨q, r + i, none⟩ := by
  refine h q (r + i) ?_ hv
  by_cases e : q = b
  · subst e
    have := hS.apart hq (by omega)
    omega
  · exact .inl e

theorem OwB.off {w W : World} {b o : Nat} {a : Option Addr} {n cap : Nat} {zs : List Int} {bb off : Nat} (h : OwB w a n cap zs bb off) (hO : OffS w W b o) (hS : Slot w b o) : OwB W a n cap zs bb off := by
  obtain ⟨h1, h2, h3, h4⟩ := h
  refine ⟨h1, h2, h3, ?_⟩
  rcases h4 with h4 | ⟨e, h4⟩
  · exact .inl h4
  · exact .inr ⟨e, fun i hi => hO.byte hS (h4 i hi)⟩

theorem slot_of {w : World} {d b o : Nat} {v0 v1 v2 v3 : Value} {c : CN} {L : List (Addr × IntKind)} (hr : OwC w d (.agg #[v0, v1, v2, v3]) c L) (c0 : w.cell? ⟨b, o, none⟩ = some v0) (c1 : w.cell? ⟨b, o + 1, none⟩ = some v1) (c2 : w.cell? ⟨b, o + 2, none⟩ = some v2) (c3 : w.cell? ⟨b, o + 3, none⟩ = some v3) : Slot w b o := by
  obtain ⟨rfl, ⟨_, _, _, rfl⟩, ⟨_, _, _, rfl⟩, ⟨_, _, _, rfl⟩⟩ := hr.form
  exact ⟨⟨_, c0⟩, ⟨_, _, _, c1⟩, ⟨_, _, _, c2⟩, ⟨_, _, _, c3⟩⟩

/-- A tree whose footprint has not that slot reads as it did. -/
theorem OwC.off {w W : World} {b o : Nat} (hO : OffS w W b o) (hS : Slot w b o) : ∀ {d : Nat} {v : Value} {c : CN} {L : List (Addr × IntKind)}, OwC w d v c L → (∀ x ∈ L, x.1 ≠ ⟨b, o, none⟩) → OwC W d v c L := by
  intro d
  induction d with
  | zero => intro v c L h _; exact h
  | succ d ih =>
    intro v c L h hk
    obtain ⟨na, nn, nc, ra, rn, rc, ka, kn, kc, bn, on, br, or, bk, ok, Ls, hv, h1, h2, h3, rfl⟩ := h
    refine ⟨na, nn, nc, ra, rn, rc, ka, kn, kc, bn, on, br, or, bk, ok, Ls, hv, h1.off hO hS, h2.off hO hS, ?_, rfl⟩
    obtain ⟨g1, g2, g3⟩ := h3
    refine ⟨g1, g2, ?_⟩
    rcases g3 with g3 | ⟨e, g3⟩
    · exact .inl g3
    · refine .inr ⟨e, fun i hi => ?_⟩
      obtain ⟨v0, v1, v2, v3, c0, c1, c2, c3, hr⟩ := g3 i hi
      have hq := slot_of hr c0 c1 c2 c3
      have hne : bk ≠ b ∨ ok + i * 4 ≠ o := by
        have := hk (⟨bk, ok + i * 4, none⟩, .i64) (by simp only [List.mem_append]; exact .inr (.inr (mem_leafK.2 ⟨i, hi, .inl rfl⟩)))
        apply Classical.byContradiction
        intro hn
        exact this (by have e : bk = b ∧ ok + i * 4 = o := by omega
                       rw [e.1, e.2])
      refine ⟨v0, v1, v2, v3, ?_, ?_, ?_, ?_, ih hr (fun x hx => hk x (by simp only [List.mem_append]; exact .inr (.inr (mem_leafK.2 ⟨i, hi, .inr hx⟩))))⟩
      · exact (hO.slot (i := 0) hS hq hne (by omega) ⟨_, c0⟩).trans c0
      · exact (hO.slot (i := 1) hS hq hne (by omega) ⟨_, c1⟩).trans c1
      · exact (hO.slot (i := 2) hS hq hne (by omega) ⟨_, c2⟩).trans c2
      · exact (hO.slot (i := 3) hS hq hne (by omega) ⟨_, c3⟩).trans c3

/-- A slot that reads as a concept. -/
def OwS (w : World) (d b o : Nat) (c : CN) (L : List (Addr × IntKind)) : Prop := ∃ v0 v1 v2 v3, w.cell? ⟨b, o, none⟩ = some v0 ∧ w.cell? ⟨b, o + 1, none⟩ = some v1 ∧ w.cell? ⟨b, o + 2, none⟩ = some v2 ∧ w.cell? ⟨b, o + 3, none⟩ = some v3 ∧ OwC w d (.agg #[v0, v1, v2, v3]) c L
def RdS (lo hi : Nat) (w : World) (d b o : Nat) (c : CN) : Prop := ∃ v0 v1 v2 v3, w.cell? ⟨b, o, none⟩ = some v0 ∧ w.cell? ⟨b, o + 1, none⟩ = some v1 ∧ w.cell? ⟨b, o + 2, none⟩ = some v2 ∧ w.cell? ⟨b, o + 3, none⟩ = some v3 ∧ RdC lo hi w d (.agg #[v0, v1, v2, v3]) c

theorem RdC.higher {lo hi d D : Nat} {w : World} {v : Value} {c : CN} (h : RdC lo hi w d v c) (hd : d ≤ D) : RdC lo hi w D v c := by
  obtain ⟨L, h1, h2⟩ := h.ow
  exact (h1.lift hd).rd h2
theorem RdS.higher {lo hi d D b o : Nat} {w : World} {c : CN} (h : RdS lo hi w d b o c) (hd : d ≤ D) : RdS lo hi w D b o c := by
  obtain ⟨v0, v1, v2, v3, c0, c1, c2, c3, hr⟩ := h
  exact ⟨v0, v1, v2, v3, c0, c1, c2, c3, hr.higher hd⟩

/-- From a slot down to a slot, through kids. -/
inductive Path (w : World) : Nat → Nat → Nat → Nat → Prop
  | here (b o : Nat) : Path w b o b o
  | kid {b o bk ok kn kc j b' o' : Nat} : w.cell? ⟨b, o + 3, none⟩ = some (.slice (some ⟨bk, ok, none⟩) kn kc) → j < kn → Path w bk (ok + j * 4) b' o' → Path w b o b' o'

theorem Path.snoc {w : World} {b o b' o' : Nat} (h : Path w b o b' o') {bk ok kn kc j : Nat} (hc : w.cell? ⟨b', o' + 3, none⟩ = some (.slice (some ⟨bk, ok, none⟩) kn kc)) (hj : j < kn) : Path w b o bk (ok + j * 4) := by
  induction h with
  | here b o => exact .kid hc hj (.here _ _)
  | kid h1 h2 _ ih => exact .kid h1 h2 (ih hc)

theorem bulks_set : ∀ (cs : List CN) (j : Nat) (x : CN), j < cs.length → bulks (cs.set j x) + (cs.getD j CN.zero).bulk = bulks cs + x.bulk
  | [], j, x, h => absurd h (by simp)
  | c :: cs, 0, x, _ => by simp only [List.set, bulks, List.getD_cons_zero]; omega
  | c :: cs, j + 1, x, h => by
    have := bulks_set cs j x (by simpa using h)
    simp only [List.set, bulks, List.getD_cons_succ]; omega

theorem leafK_apart {bk ok : Nat} {Ls : Nat → List (Addr × IntKind)} {n : Nat} (h : ((leafK bk ok Ls n).map (·.1)).Nodup) :
    (∀ j, j < n → ((Ls j).map (·.1)).Nodup ∧ (⟨bk, ok + j * 4, none⟩ : Addr) ∉ (Ls j).map (·.1)) ∧
    (∀ i j, i < n → j < n → i ≠ j → ∀ p, (p = (⟨bk, ok + j * 4, none⟩ : Addr) ∨ p ∈ (Ls j).map (·.1)) → p ≠ ⟨bk, ok + i * 4, none⟩ ∧ p ∉ (Ls i).map (·.1)) := by
  have e : (leafK bk ok Ls n).map (·.1) = (List.range n).flatMap (fun i => (⟨bk, ok + i * 4, none⟩ : Addr) :: (Ls i).map (·.1)) := by
    rw [leafK, List.map_flatMap]; rfl
  rw [e, List.Nodup, List.pairwise_flatMap] at h
  obtain ⟨h1, h2⟩ := h
  refine ⟨fun j hj => ?_, fun i j hi hj hne p hp => ?_⟩
  · have := h1 j (List.mem_range.2 hj)
    rw [List.pairwise_cons] at this
    exact ⟨this.2, fun hm => this.1 _ hm rfl⟩
  · have h3 : ∀ a b, a < b → b < n → ∀ x ∈ (⟨bk, ok + a * 4, none⟩ : Addr) :: (Ls a).map (·.1), ∀ y ∈ (⟨bk, ok + b * 4, none⟩ : Addr) :: (Ls b).map (·.1), x ≠ y := by
      intro a b hab hb
      have := List.pairwise_iff_getElem.1 h2 a b (by simp; omega) (by simpa using hb) hab
      simpa using this
    have hp' : p ∈ (⟨bk, ok + j * 4, none⟩ : Addr) :: (Ls j).map (·.1) := List.mem_cons.2 hp
    rcases Nat.lt_or_gt_of_ne hne with q | q
    · exact ⟨fun e => h3 i j q hj _ (List.mem_cons.2 (.inl rfl)) p hp' e.symm, fun e => h3 i j q hj p (List.mem_cons.2 (.inr e)) p hp' rfl⟩
    · exact ⟨fun e => h3 j i q hi p hp' _ (List.mem_cons.2 (.inl rfl)) e, fun e => h3 j i q hi p hp' p (List.mem_cons.2 (.inr e)) rfl⟩

/-- The path's end is the slot itself or in its footprint. -/
theorem Path.mem {w : World} {b o b' o' : Nat} (h : Path w b o b' o') : ∀ {d : Nat} {c : CN} {L : List (Addr × IntKind)}, OwS w d b o c L → (⟨b', o', none⟩ : Addr) = ⟨b, o, none⟩ ∨ (⟨b', o', none⟩ : Addr) ∈ L.map (·.1) := by
  induction h with
  | here b o => intro d c L _; exact .inl rfl
  | @kid b o bk ok kn kc j b' o' h1 h2 _ ih =>
    intro d c L hw
    obtain ⟨v0, v1, v2, v3, c0, c1, c2, c3, hr⟩ := hw
    cases d with
    | zero => exact hr.elim
    | succ d =>
      obtain ⟨na, nn, nc, ra, rn, rc, ka, kn', kc', bn, on, br, or, bk', ok', Ls, hv, q1, q2, q3, rfl⟩ := hr
      simp only [Value.agg.injEq, Array.mk.injEq, List.cons.injEq, and_true] at hv
      obtain ⟨rfl, rfl, rfl, rfl⟩ := hv
      rw [h1] at c3
      simp only [Option.some.injEq, Value.slice.injEq] at c3
      obtain ⟨e1, rfl, rfl⟩ := c3
      rcases q3.cells with q | ⟨e2, q⟩
      · omega
      · rw [← e1] at e2
        simp only [Option.some.injEq, Addr.mk.injEq, and_true] at e2
        obtain ⟨rfl, rfl⟩ := e2
        have := ih (q j h2)
        refine .inr ?_
        simp only [List.map_append, List.mem_append]
        refine .inr (.inr ?_)
        rcases this with e | e
        · rw [e]; exact List.mem_map.2 ⟨_, mem_leafK.2 ⟨j, h2, .inl rfl⟩, rfl⟩
        · obtain ⟨x, hx, ex⟩ := List.mem_map.1 e
          exact List.mem_map.2 ⟨x, mem_leafK.2 ⟨j, h2, .inr hx⟩, ex⟩

/-- Whatever readable concept is put into the slot at the path's end, the slot at its begin reads as some concept. -/
theorem Path.put {w W : World} {b o b' o' : Nat} (h : Path w b o b' o') {lo hi D : Nat} {c' : CN} (hR : RdS lo hi W D b' o' c') (hO : OffS w W b' o') (hS : Slot w b' o') :
    ∀ {d : Nat} {c : CN} {L : List (Addr × IntKind)}, OwS w d b o c L → (L.map (·.1)).Nodup → (⟨b, o, none⟩ : Addr) ∉ L.map (·.1) → (∀ x ∈ L, lo ≤ x.1.block ∧ x.1.block < hi) →
      ∃ c'', RdS lo hi W (d + D) b o c'' ∧ c''.bulk ≤ c.bulk + c'.bulk := by
  induction h with
  | here b o => intro d c L _ _ _ _; exact ⟨c', hR.higher (by omega), by omega⟩
  | @kid b o bk ok kn kc j b' o' h1 h2 hp ih =>
    intro d c L hw hnd hnm hbl
    have hw' := hw
    have hend := (Path.kid h1 h2 hp).mem hw
    obtain ⟨v0, v1, v2, v3, c0, c1, c2, c3, hr⟩ := hw
    have hq := slot_of hr c0 c1 c2 c3
    cases d with
    | zero => exact hr.elim
    | succ d =>
      obtain ⟨na, nn, nc, ra, rn, rc, ka, kn', kc', bn, on, br, or, bk', ok', Ls, hv, q1, q2, q3, rfl⟩ := hr
      simp only [Value.agg.injEq, Array.mk.injEq, List.cons.injEq, and_true] at hv
      obtain ⟨rfl, rfl, rfl, rfl⟩ := hv
      rw [h1] at c3
      simp only [Option.some.injEq, Value.slice.injEq] at c3
      obtain ⟨e1, rfl, rfl⟩ := c3
      rcases q3.cells with q | ⟨e2, q⟩
      · omega
      · rw [← e1] at e2
        simp only [Option.some.injEq, Addr.mk.injEq, and_true] at e2
        obtain ⟨rfl, rfl⟩ := e2
        have hK : ((leafK bk ok Ls kn).map (·.1)).Nodup := by
          rw [List.map_append, List.map_append] at hnd
          exact (List.nodup_append.1 (List.nodup_append.1 hnd).2.1).2.1
        obtain ⟨k1, k2⟩ := leafK_apart hK
        have hbK : ∀ x ∈ leafK bk ok Ls kn, lo ≤ x.1.block ∧ x.1.block < hi := fun x hx => hbl x (by simp only [List.mem_append]; exact .inr (.inr hx))
        have hjm : (⟨b', o', none⟩ : Addr) = ⟨bk, ok + j * 4, none⟩ ∨ (⟨b', o', none⟩ : Addr) ∈ (Ls j).map (·.1) := hp.mem (q j h2)
        have hne : b ≠ b' ∨ o ≠ o' := by
          apply Classical.byContradiction
          intro hn
          have e : b = b' ∧ o = o' := by omega
          apply hnm
          rw [e.1, e.2]
          simp only [List.map_append, List.mem_append]
          refine .inr (.inr ?_)
          rcases hjm with e | e
          · rw [e]; exact List.mem_map.2 ⟨_, mem_leafK.2 ⟨j, h2, .inl rfl⟩, rfl⟩
          · obtain ⟨x, hx, ex⟩ := List.mem_map.1 e
            exact List.mem_map.2 ⟨x, mem_leafK.2 ⟨j, h2, .inr hx⟩, ex⟩
        obtain ⟨y, hy, hyb⟩ := ih hR hO hS (q j h2) (k1 j h2).1 (k1 j h2).2 (fun x hx => hbK x (mem_leafK.2 ⟨j, h2, .inr hx⟩))
        have hl := q3.len
        refine ⟨.mk c.kind c.name c.role (c.kids.set j y), ⟨_, _, _, _, (hO.slot (i := 0) hS hq hne (by omega) ⟨_, c0⟩).trans c0, (hO.slot (i := 1) hS hq hne (by omega) ⟨_, c1⟩).trans c1, (hO.slot (i := 2) hS hq hne (by omega) ⟨_, c2⟩).trans c2, (hO.slot (i := 3) hS hq hne (by omega) ⟨_, h1⟩).trans h1, ?_⟩, ?_⟩
        · rw [Nat.succ_add]
          refine ⟨_, _, _, _, _, _, _, _, _, rfl, (q1.off hO hS).rd (fun x hx => hbl x (by simp [hx])), (q2.off hO hS).rd (fun x hx => hbl x (by simp [hx])), ⟨by show (c.kids.set j y).length = kn; rw [List.length_set, hl], q3.fits, .inr ⟨bk, ok, rfl, ?_, ?_, fun i hi => ?_⟩⟩⟩
          · exact (hbK _ (mem_leafK.2 ⟨j, h2, .inl rfl⟩)).1
          · exact (hbK _ (mem_leafK.2 ⟨j, h2, .inl rfl⟩)).2
          · by_cases hij : i = j
            · subst hij
              have e : (CN.mk c.kind c.name c.role (c.kids.set i y)).kids.getD i CN.zero = y := by
                show (c.kids.set i y).getD i CN.zero = y
                rw [List.getD, List.getElem?_set_self (by omega)]; rfl
              rw [e]
              exact hy
            · have e : (CN.mk c.kind c.name c.role (c.kids.set j y)).kids.getD i CN.zero = c.kids.getD i CN.zero := by
                show (c.kids.set j y).getD i CN.zero = c.kids.getD i CN.zero
                rw [List.getD, List.getElem?_set_ne (fun h => hij h.symm)]; rfl
              rw [e]
              obtain ⟨u0, u1, u2, u3, d0, d1, d2, d3, hs⟩ := q i hi
              have hqi := slot_of hs d0 d1 d2 d3
              have hap := k2 i j hi h2 hij _ hjm
              have hnei : bk ≠ b' ∨ ok + i * 4 ≠ o' := by
                apply Classical.byContradiction
                intro hn
                have e : bk = b' ∧ ok + i * 4 = o' := by omega
                exact hap.1 (by rw [e.1, e.2])
              have hs' := OwC.off hO hS hs (fun x hx e => hap.2 (List.mem_map.2 ⟨x, hx, e⟩))
              exact ⟨u0, u1, u2, u3, (hO.slot (i := 0) hS hqi hnei (by omega) ⟨_, d0⟩).trans d0, (hO.slot (i := 1) hS hqi hnei (by omega) ⟨_, d1⟩).trans d1, (hO.slot (i := 2) hS hqi hnei (by omega) ⟨_, d2⟩).trans d2, (hO.slot (i := 3) hS hqi hnei (by omega) ⟨_, d3⟩).trans d3, (hs'.rd (fun x hx => hbK x (mem_leafK.2 ⟨i, hi, .inr hx⟩))).higher (by omega)⟩
        · have hb := bulks_set c.kids j y (by omega)
          have hc := c.bulk_eq
          rw [CN.bulk]
          omega

end Go.Proofs.Ytnmljalcndfjmaa
