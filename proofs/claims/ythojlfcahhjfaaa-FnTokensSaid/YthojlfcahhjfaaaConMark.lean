/- The laws' marking of a concept that was handed over: it turns numbers alone, and only in the blocks of that concept. -/
import Derived.Test.YthojlfcahhjfaaaConMem
import Derived.Test.YthojlfcahhjfaaaBytes
import Derived.Test.YthojlfcahhjfaaaConSpec
namespace Go.Proofs.Ythojlfcahhjfaaa
open Go.RowKit

/-- Only numbers were turned, and only in the blocks from lo on, below hi. -/
structure MarkRel (lo hi : Nat) (w w' : World) : Prop where
  os : w'.os = w.os
  tape : w'.tape = w.tape
  output : w'.output = w.output
  size : w.heap.size ≤ w'.heap.size
  out : ∀ b, b < w.heap.size → (b < lo ∨ hi ≤ b) → w'.heap[b]? = w.heap[b]?
  cell : ∀ (p : Addr) (v : Value), w.cell? p = some v → w'.cell? p = some v ∨ ∃ kd m m', v = .int kd m ∧ w'.cell? p = some (.int kd m')
  frz : ∀ p : Addr, p.block < w.heap.size → w'.frozen? p = w.frozen? p

theorem MarkRel.refl (lo hi : Nat) (w : World) : MarkRel lo hi w w := ⟨rfl, rfl, rfl, Nat.le_refl _, fun _ _ _ => rfl, fun _ _ h => .inl h, fun _ _ => rfl⟩

theorem MarkRel.trans {lo hi : Nat} {a b c : World} (h : MarkRel lo hi a b) (k : MarkRel lo hi b c) : MarkRel lo hi a c := by
  refine ⟨k.os.trans h.os, k.tape.trans h.tape, k.output.trans h.output, Nat.le_trans h.size k.size, fun x h1 h2 => (k.out x (Nat.lt_of_lt_of_le h1 h.size) h2).trans (h.out x h1 h2), fun p v hp => ?_, fun p hp => (k.frz p (Nat.lt_of_lt_of_le hp h.size)).trans (h.frz p hp)⟩
  rcases h.cell p v hp with h1 | ⟨kd, m, m', e, h1⟩
  · exact k.cell p v h1
  · rcases k.cell p _ h1 with h2 | ⟨kd2, m2, m2', e2, h2⟩
    · exact .inr ⟨kd, m, m', e, h2⟩
    · simp only [Value.int.injEq] at e2
      obtain ⟨rfl, _⟩ := e2
      exact .inr ⟨kd, m, m2', e, h2⟩

theorem MarkRel.of_below {lo hi : Nat} {w w' : World} (h : Below w.heap.size w w') : MarkRel lo hi w w' :=
  ⟨h.os, h.tape, h.output, h.size, fun b h1 _ => h.block b h1, fun p _ hp => .inl ((h.cell (p := p) (block_lt_of_cell hp)).trans hp), fun p hp => World.frozen?_of_block (w := w) (h.block p.block hp)⟩

theorem MarkRel.set {lo hi : Nat} {w : World} {a : Addr} {kd : IntKind} {m : Int} (h : w.cell? a = some (.int kd m)) (h1 : lo ≤ a.block) (h2 : a.block < hi) (m' : Int) : MarkRel lo hi w (w.setCell a (.int kd m')) := by
  have hb := (Below.refl a.block w).setCell (p := a) (Nat.le_refl _) (.int kd m')
  refine ⟨hb.os, hb.tape, hb.output, hb.size, fun b _ hb' => Below.heap_setCell w a _ b (by omega), fun p v hp => ?_, fun p _ => by simp⟩
  by_cases e : a = p
  · subst e
    rw [h] at hp
    cases hp
    exact .inr ⟨kd, m, m', rfl, World.cell?_setCell_same _ _ _ h⟩
  · exact .inl (by rw [World.cell?_setCell_other _ _ _ _ e]; exact hp)

theorem MarkRel.keep {lo hi : Nat} {w w' : World} (h : MarkRel lo hi w w') {p : Addr} {v : Value} (hp : w.cell? p = some v) (hv : ∀ kd m, v ≠ .int kd m) : w'.cell? p = some v := by
  rcases h.cell p v hp with h1 | ⟨kd, m, _, e, _⟩
  · exact h1
  · exact absurd e (hv kd m)

theorem MarkRel.int {lo hi : Nat} {w w' : World} (h : MarkRel lo hi w w') {p : Addr} {kd : IntKind} {m : Int} (hp : w.cell? p = some (.int kd m)) : ∃ m', w'.cell? p = some (.int kd m') := by
  rcases h.cell p _ hp with h1 | ⟨kd', m1, m', e, h1⟩
  · exact ⟨m, h1⟩
  · simp only [Value.int.injEq] at e
    obtain ⟨rfl, _⟩ := e
    exact ⟨m', h1⟩

theorem Free.mark {lo hi lo' hi' : Nat} {w w' : World} (h : Free lo hi w) (hm : MarkRel lo' hi' w w') (hh : hi ≤ w.heap.size) : Free lo hi w' := fun b h1 h2 o => (hm.frz ⟨b, o, none⟩ (Nat.lt_of_lt_of_le h2 hh)).trans (h b h1 h2 o)

theorem markRel_marks {lo hi : Nat} {L : List (Addr × IntKind)} : ∀ {w : World}, LeafOk w L → (∀ x ∈ L, lo ≤ x.1.block ∧ x.1.block < hi) → ∀ k, MarkRel lo hi w (marks w L k) := by
  induction L with
  | nil => intro w _ _ k; exact MarkRel.refl _ _ _
  | cons x L ih =>
    intro w hL hB k
    obtain ⟨a, kd⟩ := x
    obtain ⟨⟨m, hm⟩, _⟩ := hL (a, kd) (by simp)
    have h1' := hL.set hm (kd.wrap k)
    have hb := hB (a, kd) (by simp)
    exact (MarkRel.set hm hb.1 hb.2 _).trans (ih (fun x hx => h1' x (by simp [hx])) (fun x hx => hB x (by simp [hx])) (k + 1))

/-- A slice of bytes, whatever they are. -/
structure ShB (lo hi : Nat) (w : World) (a : Option Addr) (n cap : Nat) : Prop where
  fits : n ≤ cap ∧ cap ≤ 9223372036854775807
  cells : n = 0 ∨ ∃ b off, a = some ⟨b, off, none⟩ ∧ lo ≤ b ∧ b < hi ∧ ∀ i, i < n → ∃ z, w.cell? ⟨b, off + i, none⟩ = some (.int .u8 z)

theorem Rd.sh {lo hi : Nat} {w : World} {a : Option Addr} {n cap : Nat} {zs : List Int} (h : Rd lo hi w a n cap zs) : ShB lo hi w a n cap := by
  obtain ⟨_, hm, _, hc⟩ := h
  refine ⟨hm, ?_⟩
  rcases hc with h0 | ⟨b, off, e, h1, h2, hc⟩
  · exact .inl h0
  · exact .inr ⟨b, off, e, h1, h2, fun i hi => ⟨_, hc i hi⟩⟩

theorem ShB.mark {lo hi lo' hi' : Nat} {w w' : World} {a : Option Addr} {n cap : Nat} (h : ShB lo hi w a n cap) (hm : MarkRel lo' hi' w w') : ShB lo hi w' a n cap := by
  obtain ⟨hf, hc⟩ := h
  refine ⟨hf, ?_⟩
  rcases hc with h0 | ⟨b, off, e, h1, h2, hc⟩
  · exact .inl h0
  · exact .inr ⟨b, off, e, h1, h2, fun i hi => by obtain ⟨z, hz⟩ := hc i hi; exact hm.int hz⟩

/-- A concept, whatever its numbers are: c says how long its lists are. -/
def ShC (lo hi : Nat) (w : World) : Nat → Value → CN → Prop
  | 0, _, _ => False
  | d + 1, v, c => ∃ k na nn nc ra rn rc ka kn kc, v = .agg #[.int .i64 k, .slice na nn nc, .slice ra rn rc, .slice ka kn kc] ∧
      c.name.length = nn ∧ ShB lo hi w na nn nc ∧ c.role.length = rn ∧ ShB lo hi w ra rn rc ∧ RdL (ShC lo hi w d) lo hi w ka kn kc c.kids

theorem RdC.sh {lo hi : Nat} {w : World} : ∀ {d : Nat} {v : Value} {c : CN}, RdC lo hi w d v c → ShC lo hi w d v c := by
  intro d
  induction d with
  | zero => intro v c h; exact h
  | succ d ih =>
    intro v c h
    obtain ⟨na, nn, nc, ra, rn, rc, ka, kn, kc, hv, h1, h2, h3⟩ := h
    exact ⟨_, na, nn, nc, ra, rn, rc, ka, kn, kc, hv, h1.len, h1.sh, h2.len, h2.sh, h3.imp (fun v c h => ih h) (Same.refl _ _ _) (Nat.le_refl _) (Nat.le_refl _)⟩

theorem ShC.markL {lo hi lo' hi' : Nat} {w w' : World} {d : Nat} (ih : ∀ {v0 v1 v2 v3 : Value} {c : CN} (m : Int), ShC lo hi w d (.agg #[v0, v1, v2, v3]) c → ShC lo hi w' d (.agg #[.int .i64 m, v1, v2, v3]) c) (hm : MarkRel lo' hi' w w')
    (hform : ∀ {v0 v1 v2 v3 : Value} {c : CN}, ShC lo hi w d (.agg #[v0, v1, v2, v3]) c → ∃ k na nn nc ra rn rc ka kn kc, v0 = .int .i64 k ∧ v1 = .slice na nn nc ∧ v2 = .slice ra rn rc ∧ v3 = .slice ka kn kc)
    {a : Option Addr} {n cap : Nat} {cs : List CN} (h : RdL (ShC lo hi w d) lo hi w a n cap cs) : RdL (ShC lo hi w' d) lo hi w' a n cap cs := by
  obtain ⟨hl, hf, hc⟩ := h
  refine ⟨hl, hf, ?_⟩
  rcases hc with h0 | ⟨b, off, e, h1, h2, hc⟩
  · exact .inl h0
  · refine .inr ⟨b, off, e, h1, h2, fun i hi => ?_⟩
    obtain ⟨v0, v1, v2, v3, c0, c1, c2, c3, hr⟩ := hc i hi
    obtain ⟨k, na, nn, nc, ra, rn, rc, ka, kn, kc, rfl, rfl, rfl, rfl⟩ := hform hr
    obtain ⟨m, hm0⟩ := hm.int c0
    exact ⟨_, _, _, _, hm0, hm.keep c1 (by intros; simp), hm.keep c2 (by intros; simp), hm.keep c3 (by intros; simp), ih m hr⟩

theorem ShC.form {lo hi : Nat} {w : World} {d : Nat} {v0 v1 v2 v3 : Value} {c : CN} (h : ShC lo hi w d (.agg #[v0, v1, v2, v3]) c) : ∃ k na nn nc ra rn rc ka kn kc, v0 = .int .i64 k ∧ v1 = .slice na nn nc ∧ v2 = .slice ra rn rc ∧ v3 = .slice ka kn kc := by
  cases d with
  | zero => exact h.elim
  | succ d =>
    obtain ⟨k, na, nn, nc, ra, rn, rc, ka, kn, kc, hv, _⟩ := h
    simp only [Value.agg.injEq, Array.mk.injEq, List.cons.injEq, and_true] at hv
    exact ⟨k, na, nn, nc, ra, rn, rc, ka, kn, kc, hv.1, hv.2.1, hv.2.2.1, hv.2.2.2⟩

theorem ShC.mark {lo hi lo' hi' : Nat} {w w' : World} (hm : MarkRel lo' hi' w w') : ∀ {d : Nat} {v0 v1 v2 v3 : Value} {c : CN} (m : Int), ShC lo hi w d (.agg #[v0, v1, v2, v3]) c → ShC lo hi w' d (.agg #[.int .i64 m, v1, v2, v3]) c := by
  intro d
  induction d with
  | zero => intro v0 v1 v2 v3 c m h; exact h
  | succ d ih =>
    intro v0 v1 v2 v3 c m h
    obtain ⟨k, na, nn, nc, ra, rn, rc, ka, kn, kc, hv, h1, h2, h3, h4, h5⟩ := h
    simp only [Value.agg.injEq, Array.mk.injEq, List.cons.injEq, and_true] at hv
    obtain ⟨_, rfl, rfl, rfl⟩ := hv
    exact ⟨m, na, nn, nc, ra, rn, rc, ka, kn, kc, rfl, h1, h2.mark hm, h3, h4.mark hm, ShC.markL ih hm ShC.form h5⟩

theorem RdL.mark {lo hi lo' hi' : Nat} {w w' : World} (hm : MarkRel lo' hi' w w') {d : Nat} {a : Option Addr} {n cap : Nat} {cs : List CN} (h : RdL (ShC lo hi w d) lo hi w a n cap cs) : RdL (ShC lo hi w' d) lo hi w' a n cap cs :=
  ShC.markL (ShC.mark hm) hm ShC.form h

theorem markB_any (a : Option Addr) (n cap : Nat) (k : Int) (w : World) {lo hi : Nat} (h : ShB lo hi w a n cap) (hF : Free lo hi w) (hn : n ≤ 1048576) (hk : 0 ≤ k ∧ k ≤ 1073741824) :
    Calls Try.prog 31 #[.slice a n cap, .int .i64 k] w fun e w' => e = .returned (.int .i64 (k + n)) ∧ MarkRel lo hi w w' := by
  rcases h.cells with h0 | ⟨b, off, rfl, h1, h2, hc⟩
  · subst h0
    refine (markByteS_any a 0 cap k w 0 0 (.inl rfl) (by intro x hx; simp [leafB] at hx) (by omega) hk).mono ?_
    rintro e w' ⟨rfl, hw⟩
    exact ⟨rfl, by rw [hw]; exact MarkRel.refl _ _ _⟩
  · have hL : LeafOk w (leafB b off n) := by
      intro x hx
      simp only [leafB, List.mem_map, List.mem_range] at hx
      obtain ⟨j, hj, rfl⟩ := hx
      exact ⟨hc j hj, hF b h1 h2 _⟩
    refine (markByteS_any _ n cap k w b off (.inr rfl) hL hn hk).mono ?_
    rintro e w' ⟨rfl, hw⟩
    refine ⟨rfl, ?_⟩
    rw [hw]
    refine markRel_marks hL (fun x hx => ?_) k
    simp only [leafB, List.mem_map, List.mem_range] at hx
    obtain ⟨j, hj, rfl⟩ := hx
    exact ⟨h1, h2⟩

def MkL (d : Nat) : Prop := ∀ (a : Option Addr) (n cap : Nat) (cs : List CN) (k : Int) (w : World) (lo hi : Nat), RdL (ShC lo hi w d) lo hi w a n cap cs → hi ≤ w.heap.size → Free lo hi w → bulks cs ≤ 1048576 → 0 ≤ k → k + bulks cs ≤ 1073741824 →
  Calls Try.prog 71 #[.slice a n cap, .int .i64 k] w fun e w' => e = .returned (.int .i64 (k + bulks cs)) ∧ MarkRel lo hi w w'

set_option maxRecDepth 100000 in
set_option maxHeartbeats 1000000 in
theorem mkL_of {d : Nat} (H : ∀ d', d = d' + 1 → MkL d') : MkL d := by
  intro a n cap cs k w lo hi h hhi hF hbk hk0 hk1
  have HR : Hid (RdL (ShC lo hi w d) lo hi w a n cap cs) := h
  have HL : Hid (cs.length = n) := h.len
  have hfit := h.fits
  have HF : Hid (Free lo hi w) := hF
  clear h hF
  go_enter Try.func71, Try.ntmps71
  go_wp2_with fail
  go_loopw [1, 5] (fun q i wr => ∃ (j : Nat) (t : Nat), j ≤ n ∧ i = .int .i64 j ∧ t = bulks (cs.take j) ∧ q = .int .i64 (k + t) ∧ MarkRel lo hi w wr) (fun _ i _ => n - (intOf i).toNat)
  case atStart => exact ⟨0, 0, Nat.zero_le _, rfl, by simp [bulks], by simp, MarkRel.refl _ _ _⟩
  case round =>
    obtain ⟨j, t, hj, rfl, ht, rfl, hmr⟩ := hrel
    have HMR : Hid (MarkRel lo hi w wr) := hmr
    have HT : Hid (t = bulks (cs.take j)) := ht
    have htl : t ≤ 1048576 := by have := bulks_take_le cs j; omega
    by_cases hlt : j < n
    · have hjl : j < cs.length := by rw [HL.out]; exact hlt
      have hji : (j : Int) < (n : Int) := by omega
      have hR := RdL.mark hmr HR.out
      have hFr := HF.out.mark hmr hhi
      rcases hR.cells with h0 | ⟨b, off, e1, hb1, hb2, hc⟩
      · omega
      · subst e1
        obtain ⟨v0, v1, v2, v3, c0, c1, c2, c3, hs⟩ := hc j hlt
        cases d with
        | zero => exact hs.elim
        | succ d' =>
          have HH : Hid (MkL d') := H d' rfl
          obtain ⟨k0, na, nn, nc, ra, rn, rc, ka, kn, kc, hv, hnl, hnb, hrl, hrb, hkd⟩ := hs
          simp only [Value.agg.injEq, Array.mk.injEq, List.cons.injEq, and_true] at hv
          obtain ⟨rfl, rfl, rfl, rfl⟩ := hv
          have hts := bulks_take_succ cs j hjl
          have htl2 := bulks_take_le cs (j + 1)
          have hbe := (cs.getD j CN.zero).bulk_eq
          rw [hnl, hrl] at hbe
          obtain ⟨u, hu⟩ : ∃ u, u = bulks (cs.getD j CN.zero).kids := ⟨_, rfl⟩
          rw [← hu] at hbe
          have HU : Hid (u = bulks (cs.getD j CN.zero).kids) := hu
          have HTS : Hid (bulks (cs.take (j + 1)) = t + 1 + nn + rn + u) := by unfold Hid; rw [hts, ← ht]; omega
          have hbnd : t + 1 + nn + rn + u ≤ bulks cs := by rw [hts, ← ht] at htl2; omega
          have f0 := hFr b hb1 hb2 (off + j * 4)
          have hm1 : MarkRel lo hi wr (wr.setCell ⟨b, off + j * 4, none⟩ (.int .i64 (k + t))) := MarkRel.set c0 hb1 hb2 _
          obtain ⟨W1, hW1⟩ : ∃ W1, W1 = wr.setCell ⟨b, off + j * 4, none⟩ (.int .i64 (k + t)) := ⟨_, rfl⟩
          rw [← hW1] at hm1
          have HW1 : Hid (W1 = wr.setCell ⟨b, off + j * 4, none⟩ (.int .i64 (k + t))) := hW1
          have HM1 : Hid (MarkRel lo hi wr W1) := hm1
          have d1 := hm1.keep c1 (by intros; simp)
          have d2 := hm1.keep c2 (by intros; simp)
          have d3 := hm1.keep c3 (by intros; simp)
          have hsr := hmr.size
          have HFr : Hid (Free lo hi wr) := hFr
          have HNB : Hid (ShB lo hi wr na nn nc) := hnb
          have HRB : Hid (ShB lo hi wr ra rn rc) := hrb
          have HKD : Hid (RdL (ShC lo hi wr d') lo hi wr ka kn kc (cs.getD j CN.zero).kids) := hkd
          clear hR hc hFr hnb hrb hkd hW1 hm1 hts htl2 hbe hu hnl hrl H hmr ht
          go_wp2_with fail
          rw [← HW1.out]
          have sw1 := HM1.out.size
          refine (markB_any na nn nc (k + t + 1) W1 (HNB.out.mark HM1.out) (HFr.out.mark HM1.out (by omega)) (by omega) (by omega)).mono ?_
          rintro e W2 ⟨rfl, hm2⟩
          have HM2 : Hid (MarkRel lo hi wr W2) := HM1.out.trans hm2
          have e2 := hm2.keep d2 (by intros; simp)
          have e3 := hm2.keep d3 (by intros; simp)
          have sw2 := hm2.size
          clear hm2 d1 d2 d3
          go_wp2_with fail
          refine (markB_any ra rn rc (k + t + 1 + nn) W2 (HRB.out.mark HM2.out) (HFr.out.mark HM2.out (by omega)) (by omega) (by omega)).mono ?_
          rintro e W3 ⟨rfl, hm3⟩
          have HM3 : Hid (MarkRel lo hi wr W3) := HM2.out.trans hm3
          have g3 := hm3.keep e3 (by intros; simp)
          have sw3 := hm3.size
          clear hm3 e2 e3
          go_wp2_with fail
          refine (HH.out ka kn kc (cs.getD j CN.zero).kids (k + t + 1 + nn + rn) W3 lo hi (RdL.mark HM3.out HKD.out) (by omega) (HFr.out.mark HM3.out (by omega)) (by rw [← HU.out]; omega) (by omega) (by rw [← HU.out]; omega)).mono ?_
          rintro e W4 ⟨rfl, hm4⟩
          rw [← HU.out]
          have HM4 : Hid (MarkRel lo hi w W4) := HMR.out.trans (HM3.out.trans hm4)
          clear hm4 g3
          go_wp2_with fail
          go_roundw
          case rel => exact ⟨j + 1, t + 1 + nn + rn + u, by omega, by go_num, HTS.out.symm, by congr 1; push_cast; omega, HM4.out⟩
          case measure => simp [intOf]; omega
    · have hjn : j = n := by omega
      have HE : Hid (t = bulks cs) := by unfold Hid; rw [HT.out, List.take_of_length_le (by rw [HL.out]; omega)]
      clear hmr ht
      go_wp2_with fail
      go_ret
      exact ⟨ri (by rw [HE.out]), HMR.out⟩

theorem mkL_any : ∀ d, MkL d
  | 0 => mkL_of (fun d' h => by omega)
  | d + 1 => mkL_of (fun d' h => by obtain rfl : d = d' := (by omega); exact mkL_any d)

theorem BoxC.mark {lo hi : Nat} {W W' : World} {b : Nat} {v0 v1 v2 v3 : Value} (h : BoxC W b v0 v1 v2 v3) (hm : MarkRel lo hi W W') (hb : hi ≤ b) : BoxC W' b v0 v1 v2 v3 := (hm.out b h.lt (.inr hb)).trans h

set_option maxRecDepth 100000 in
set_option maxHeartbeats 1000000 in
theorem markCon_any {d : Nat} (v : Value) (c : CN) (k : Int) (w : World) {lo hi : Nat} (h : ShC lo hi w d v c) (hhi : hi ≤ w.heap.size) (hF : Free lo hi w) (hbk : c.bulk ≤ 1048576) (hk0 : 0 ≤ k) (hk1 : k ≤ 536870912) :
    Calls Try.prog 30 #[v, .int .i64 k] w fun e w' => e = .returned (.int .i64 (k + c.bulk)) ∧ MarkRel lo hi w w' := by
  cases d with
  | zero => exact h.elim
  | succ d =>
    obtain ⟨k0, na, nn, nc, ra, rn, rc, ka, kn, kc, rfl, hnl, hnb, hrl, hrb, hkd⟩ := h
    have hbe := c.bulk_eq
    rw [hnl, hrl] at hbe
    obtain ⟨u, hu⟩ : ∃ u, u = bulks c.kids := ⟨_, rfl⟩
    rw [← hu] at hbe
    have HU : Hid (u = bulks c.kids) := hu
    have HBe : Hid (c.bulk = nn + rn + u) := hbe
    rw [hbe] at hbk
    have hm0 : MarkRel lo hi w (w.alloc (.cells #[.int .i64 k0, .slice na nn nc, .slice ra rn rc, .slice ka kn kc] 35)) := MarkRel.of_below ((Below.refl _ _).alloc (Nat.le_refl _) _)
    obtain ⟨W0, hW0⟩ : ∃ W0, W0 = w.alloc (.cells #[.int .i64 k0, .slice na nn nc, .slice ra rn rc, .slice ka kn kc] 35) := ⟨_, rfl⟩
    have HW0 : Hid (W0 = w.alloc (.cells #[.int .i64 k0, .slice na nn nc, .slice ra rn rc, .slice ka kn kc] 35)) := hW0
    rw [← hW0] at hm0
    have HM0 : Hid (MarkRel lo hi w W0) := hm0
    have HBx : Hid (BoxC W0 w.heap.size (.int .i64 k0) (.slice na nn nc) (.slice ra rn rc) (.slice ka kn kc)) := by unfold Hid; rw [hW0]; exact BoxC.new w _ _ _ _
    have HNB : Hid (ShB lo hi w na nn nc) := hnb
    have HRB : Hid (ShB lo hi w ra rn rc) := hrb
    have HKD : Hid (RdL (ShC lo hi w d) lo hi w ka kn kc c.kids) := hkd
    have HF : Hid (Free lo hi w) := hF
    have sw0 := hm0.size
    obtain ⟨b0, b1, b2, b3⟩ := HBx.out.cells
    clear hnb hrb hkd hF hm0 hW0 hu hbe hnl hrl
    go_enter Try.func30, Try.ntmps30
    go_wp2_with fail
    rw [← HW0.out]
    refine (markB_any na nn nc k W0 (HNB.out.mark HM0.out) (HF.out.mark HM0.out hhi) (by omega) (by omega)).mono ?_
    rintro e W2 ⟨rfl, hm2⟩
    have HM2 : Hid (MarkRel lo hi w W2) := HM0.out.trans hm2
    have HBx2 : Hid (BoxC W2 w.heap.size (.int .i64 k0) (.slice na nn nc) (.slice ra rn rc) (.slice ka kn kc)) := HBx.out.mark hm2 hhi
    clear b0 b1 b2 b3 hm2
    obtain ⟨b0, b1, b2, b3⟩ := HBx2.out.cells
    go_wp2_with fail
    refine (markB_any ra rn rc (k + nn) W2 (HRB.out.mark HM2.out) (HF.out.mark HM2.out hhi) (by omega) (by omega)).mono ?_
    rintro e W3 ⟨rfl, hm3⟩
    have HM3 : Hid (MarkRel lo hi w W3) := HM2.out.trans hm3
    have HBx3 : Hid (BoxC W3 w.heap.size (.int .i64 k0) (.slice na nn nc) (.slice ra rn rc) (.slice ka kn kc)) := HBx2.out.mark hm3 hhi
    clear b0 b1 b2 b3 hm3
    obtain ⟨b0, b1, b2, b3⟩ := HBx3.out.cells
    go_wp2_with fail
    refine (mkL_any d ka kn kc c.kids (k + nn + rn) W3 lo hi (RdL.mark HM3.out HKD.out) (Nat.le_trans hhi HM3.out.size) (HF.out.mark HM3.out hhi) (by rw [← HU.out]; omega) (by omega) (by rw [← HU.out]; omega)).mono ?_
    rintro e W4 ⟨rfl, hm4⟩
    rw [← HU.out]
    have HM4 : Hid (MarkRel lo hi w W4) := HM3.out.trans hm4
    clear hm4
    go_wp2_with fail
    go_ret
    exact ⟨ri (by rw [HBe.out]; push_cast; omega), HM4.out⟩

end Go.Proofs.Ythojlfcahhjfaaa
