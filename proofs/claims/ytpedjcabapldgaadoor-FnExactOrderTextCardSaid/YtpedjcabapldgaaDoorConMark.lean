/- The laws' marking of a concept that was handed over: it turns numbers alone, and only in the blocks of that concept. -/
import Derived.Test.YtpedjcabapldgaaDoorConMem
import Derived.Test.YtpedjcabapldgaaDoorBytes
import Derived.Test.YtpedjcabapldgaaDoorConSpec
namespace Go.Proofs.YtpedjcabapldgaaDoor
open Go.RowKit

/-- Only numbers were turned, and only in the blocks from lo on, below hi. -/
structure MarkRel (lo hi : Nat) (w w' : World) : Prop where
  os : w'.os = w.os
  tape : w'.tape = w.tape
  output : w'.output = w.output
  size : w.heap.size ≤ w'.heap.size
  out : ∀ b, b < w.heap.size → (b < lo ∨ hi ≤ b) → w'.heap[b]? = w.heap[b]?
  cell : ∀ (p : Addr) (v : Value), w.cell? p = some v → w'.cell? p = some v ∨ ∃ kd m m', v = .int kd m ∧ w'.cell? p = some (.int kd m')
  frz : ∀ p : Addr, p.block < w.heap.size → w'.frozen? p = w.frozen? p

theorem MarkRel.refl (lo hi : Nat) (w : World) : MarkRel lo hi w w := ⟨rfl, rfl, rfl, Nat.le_refl _, fun _ _ _ => rfl, fun _ _ h => .inl h, fun _ _ => rfl⟩

theorem MarkRel.trans {lo hi : Nat} {a b c : World} (h : MarkRel lo hi a b) (k : MarkRel lo hi b c) : MarkRel lo hi a c := by
  refine ⟨k.os.trans h.os, k.tape.trans h.tape, k.output.trans h.output, Nat.le_trans h.size k.size, fun x h1 h2 => (k.out x (Nat.lt_of_lt_of_le h1 h.size) h2).trans (h.out x h1 h2), fun p v hp => ?_, fun p hp => (k.frz p (Nat.lt_of_lt_of_le hp h.size)).trans (h.frz p hp)⟩
  rcases h.cell p v hp with h1 | ⟨kd, m, m', e, h1⟩
  · exact k.cell p v h1
  · rcases k.cell p _ h1 with h2 | ⟨kd2, m2, m2', e2, h2⟩
    · exact .inr ⟨kd, m, m', e, h2⟩
    · simp only [Value.int.injEq] at e2
      obtain ⟨rfl, _⟩ := e2
      exact .inr ⟨kd, m, m2', e, h2⟩

theorem MarkRel.of_below {lo hi : Nat} {w w' : World} (h : Below w.heap.size w w') : MarkRel lo hi w w' :=
  ⟨h.os, h.tape, h.output, h.size, fun b h1 _ => h.block b h1, fun p _ hp => .inl ((h.cell (p := p) (block_lt_of_cell hp)).trans hp), fun p hp => World.frozen?_of_block (w := w) (h.block p.block hp)⟩

theorem MarkRel.set {lo hi : Nat} {w : World} {a : Addr} {kd : IntKind} {m : Int} (h : w.cell? a = some (.int kd m)) (h1 : lo ≤ a.block) (h2 : a.block < hi) (m' : Int) : MarkRel lo hi w (w.setCell a (.int kd m')) := by
  have hb := (Below.refl a.block w).setCell (p := a) (Nat.le_refl _) (.int kd m')
  refine ⟨hb.os, hb.tape, hb.output, hb.size, fun b _ hb' => Below.heap_setCell w a _ b (by omega), fun p v hp => ?_, fun p _ => by simp⟩
  by_cases e : a = p
  · subst e
    rw [h] at hp
    cases hp
    exact .inr ⟨kd, m, m', rfl, World.cell?_setCell_same _ _ _ h⟩
  · exact .inl (by rw [World.cell?_setCell_other _ _ _ _ e]; exact hp)

theorem MarkRel.keep {lo hi : Nat} {w w' : World} (h : MarkRel lo hi w w') {p : Addr} {v : Value} (hp : w.cell? p = some v) (hv : ∀ kd m, v ≠ .int kd m) : w'.cell? p = some v := by
  rcases h.cell p v hp with h1 | ⟨kd, m, _, e, _⟩
  · exact h1
  · exact absurd e (hv kd m)

theorem MarkRel.int {lo hi : Nat} {w w' : World} (h : MarkRel lo hi w w') {p : Addr} {kd : IntKind} {m : Int} (hp : w.cell? p = some (.int kd m)) : ∃ m', w'.cell? p = some (.int kd m') := by
  rcases h.cell p _ hp with h1 | ⟨kd', m1, m', e, h1⟩
  · exact ⟨m, h1⟩
  · simp only [Value.int.injEq] at e
    obtain ⟨rfl, _⟩ := e
    exact ⟨m', h1⟩

theorem Free.mark {lo hi lo' hi' : Nat} {w w' : World} (h : Free lo hi w) (hm : MarkRel lo' hi' w w') (hh : hi ≤ w.heap.size) : Free lo hi w' := fun b h1 h2 o => (hm.frz ⟨b, o, none⟩ (Nat.lt_of_lt_of_le h2 hh)).trans (h b h1 h2 o)

theorem markRel_marks {lo hi : Nat} {L : List (Addr × IntKind)} : ∀ {w : World}, LeafOk w L → (∀ x ∈ L, lo ≤ x.1.block ∧ x.1.block < hi) → ∀ k, MarkRel lo hi w (marks w L k) := by
  induction L with
  | nil => intro w _ _ k; exact MarkRel.refl _ _ _
  | cons x L ih =>
    intro w hL hB k
    obtain ⟨a, kd⟩ := x
    obtain ⟨⟨m, hm⟩, _⟩ := hL (a, kd) (by simp)
    have h1' := hL.set hm (kd.wrap k)
    have hb := hB (a, kd) (by simp)
    exact (MarkRel.set hm hb.1 hb.2 _).trans (ih (fun x hx => h1' x (by simp [hx])) (fun x hx => hB x (by simp [hx])) (k + 1))

/-- A slice of bytes, whatever they are. -/
structure ShB (lo hi : Nat) (w : World) (a : Option Addr) (n cap : Nat) : Prop where
  fits : n ≤ cap ∧ cap ≤ 9223372036854775807
  cells : n = 0 ∨ ∃ b off, a = some ⟨b, off, none⟩ ∧ lo ≤ b ∧ b < hi ∧ ∀ i, i < n → ∃ z, w.cell? ⟨b, off + i, none⟩ = some (.int .u8 z)

theorem Rd.sh {lo hi : Nat} {w : World} {a : Option Addr} {n cap : Nat} {zs : List Int} (h : Rd lo hi w a n cap zs) : ShB lo hi w a n cap := by
  obtain ⟨_, hm, _, hc⟩ := h
  refine ⟨hm, ?_⟩
  rcases hc with h0 | ⟨b, off, e, h1, h2, hc⟩
  · exact .inl h0
  · exact .inr ⟨b, off, e, h1, h2, fun i hi => ⟨_, hc i hi⟩⟩

theorem ShB.mark {lo hi lo' hi' : Nat} {w w' : World} {a : Option Addr} {n cap : Nat} (h : ShB lo hi w a n cap) (hm : MarkRel lo' hi' w w') : ShB lo hi w' a n cap := by
  obtain ⟨hf, hc⟩ := h
  refine ⟨hf, ?_⟩
  rcases hc with h0 | ⟨b, off, e, h1, h2, hc⟩
  · exact .inl h0
  · exact .inr ⟨b, off, e, h1, h2, fun i hi => by obtain ⟨z, hz⟩ := hc i hi; exact hm.int hz⟩

/-- A concept, whatever its numbers are: c says how long its lists are. -/
def ShC (lo hi : Nat) (w : World) : Nat → Value → CN → Prop
  | 0, _, _ => False
  | d + 1, v, c => ∃ k na nn nc ra rn rc ka kn kc, v = .agg #[.int .i64 k, .slice na nn nc, .slice ra rn rc, .slice ka kn kc] ∧
      c.name.length = nn ∧ ShB lo hi w na nn nc ∧ c.role.length = rn ∧ ShB lo hi w ra rn rc ∧ RdL (ShC lo hi w d) lo hi w ka kn kc c.kids

theorem RdC.sh {lo hi : Nat} {w : World} : ∀ {d : Nat} {v : Value} {c : CN}, RdC lo hi w d v c → ShC lo hi w d v c := by
  intro d
  induction d with
  | zero => intro v c h; exact h
  | succ d ih =>
    intro v c h
    obtain ⟨na, nn, nc, ra, rn, rc, ka, kn, kc, hv, h1, h2, h3⟩ := h
    exact ⟨_, na, nn, nc, ra, rn, rc, ka, kn, kc, hv, h1.len, h1.sh, h2.len, h2.sh, h3.imp (fun v c h => ih h) (Same.refl _ _ _) (Nat.le_refl _) (Nat.le_refl _)⟩

theorem ShC.markL {lo hi lo' hi' : Nat} {w w' : World} {d : Nat} (ih : ∀ {v0 v1 v2 v3 : Value} {c : CN} (m : Int), ShC lo hi w d (.agg #[v0, v1, v2, v3]) c → ShC lo hi w' d (.agg #[.int .i64 m, v1, v2, v3]) c) (hm : MarkRel lo' hi' w w')
    (hform : ∀ {v0 v1 v2 v3 : Value} {c : CN}, ShC lo hi w d (.agg #[v0, v1, v2, v3]) c → ∃ k na nn nc ra rn rc ka kn kc, v0 = .int .i64 k ∧ v1 = .slice na nn nc ∧ v2 = .slice ra rn rc ∧ v3 = .slice ka kn kc)
    {a : Option Addr} {n cap : Nat} {cs : List CN} (h : RdL (ShC lo hi w d) lo hi w a n cap cs) : RdL (ShC lo hi w' d) lo hi w' a n cap cs := by
  obtain ⟨hl, hf, hc⟩ := h
  refine ⟨hl, hf, ?_⟩
  rcases hc with h0 | ⟨b, off, e, h1, h2, hc⟩
  · exact .inl h0
  · refine .inr ⟨b, off, e, h1, h2, fun i hi => ?_⟩
    obtain ⟨v0, v1, v2, v3, c0, c1, c2, c3, hr⟩ := hc i hi
    obtain ⟨k, na, nn, nc, ra, rn, rc, ka, kn, kc, rfl, rfl, rfl, rfl⟩ := hform hr
    obtain ⟨m, hm0⟩ := hm.int c0
    exact ⟨_, _, _, _, hm0, hm.keep c1 (by intros; simp), hm.keep c2 (by intros; simp), hm.keep c3 (by intros; simp), ih m hr⟩

theorem ShC.form {lo hi : Nat} {w : World} {d : Nat} {v0 v1 v2 v3 : Value} {c : CN} (h : ShC lo hi w d (.agg #[v0, v1, v2, v3]) c) : ∃ k na nn nc ra rn rc ka kn kc, v0 = .int .i64 k ∧ v1 = .slice na nn nc ∧ v2 = .slice ra rn rc ∧ v3 = .slice ka kn kc := by
  cases d with
  | zero => exact h.elim
  | succ d =>
    obtain ⟨k, na, nn, nc, ra, rn, rc, ka, kn, kc, hv, _⟩ := h
    simp only [Value.agg.injEq, Array.mk.injEq, List.cons.injEq, and_true] at hv
    exact ⟨k, na, nn, nc, ra, rn, rc, ka, kn, kc, hv.1, hv.2.1, hv.2.2.1, hv.2.2.2⟩

theorem ShC.mark {lo hi lo' hi' : Nat} {w w' : World} (hm : MarkRel lo' hi' w w') : ∀ {d : Nat} {v0 v1 v2 v3 : Value} {c : CN} (m : Int), ShC lo hi w d (.agg #[v0, v1, v2, v3]) c → ShC lo hi w' d (.agg #[.int .i64 m, v1, v2, v3]) c := by
  intro d
  induction d with
  | zero => intro v0 v1 v2 v3 c m h; exact h
  | succ d ih =>
    intro v0 v1 v2 v3 c m h
    obtain ⟨k, na, nn, nc, ra, rn, rc, ka, kn, kc, hv, h1, h2, h3, h4, h5⟩ := h
    simp only [Value.agg.injEq, Array.mk.injEq, List.cons.injEq, and_true] at hv
    obtain ⟨_, rfl, rfl, rfl⟩ := hv
    exact ⟨m, na, nn, nc, ra, rn, rc, ka, kn, kc, rfl, h1, h2.mark hm, h3, h4.mark hm, ShC.markL ih hm ShC.form h5⟩

theorem RdL.mark {lo hi lo' hi' : Nat} {w w' : World} (hm : MarkRel lo' hi' w w') {d : Nat} {a : Option Addr} {n cap : Nat} {cs : List CN} (h : RdL (ShC lo hi w d) lo hi w a n cap cs) : RdL (ShC lo hi w' d) lo hi w' a n cap cs :=
  ShC.markL (ShC.mark hm) hm ShC.form h

theorem markB_any (a : Option Addr) (n cap : Nat) (k : Int) (w : World) {lo hi : Nat} (h : ShB lo hi w a n cap) (hF : Free lo hi w) (hn : n ≤ 1048576) (hk : 0 ≤ k ∧ k ≤ 1073741824) :
    Calls Tryd.prog 11 #[.slice a n cap, .int .i64 k] w fun e w' => e = .returned (.int .i64 (k + n)) ∧ MarkRel lo hi w w' := by
  rcases h.cells with h0 | ⟨b, off, rfl, h1, h2, hc⟩
  · subst h0
    refine (markByteS_any a 0 cap k w 0 0 (.inl rfl) (by intro x hx; simp [leafB] at hx) (by omega) hk).mono ?_
    rintro e w' ⟨rfl, hw⟩
    exact ⟨rfl, by rw [hw]; exact MarkRel.refl _ _ _⟩
  · have hL : LeafOk w (leafB b off n) := by
      intro x hx
      simp only [leafB, List.mem_map, List.mem_range] at hx
      obtain ⟨j, hj, rfl⟩ := hx
      exact ⟨hc j hj, hF b h1 h2 _⟩
    refine (markByteS_any _ n cap k w b off (.inr rfl) hL hn hk).mono ?_
    rintro e w' ⟨rfl, hw⟩
    refine ⟨rfl, ?_⟩
    rw [hw]
    refine markRel_marks hL (fun x hx => ?_) k
    simp only [leafB, List.mem_map, List.mem_range] at hx
    obtain ⟨j, hj, rfl⟩ := hx
    exact ⟨h1, h2⟩

end Go.Proofs.YtpedjcabapldgaaDoor
