/- Several texts in one: ConSpec, ConTxt, ConMark, AxMem, ConTree, ConShape. -/
import Derived.Test.YtckhjoancfbkfaaGreatNG5
import Derived.BigQuiet
import Derived.RangeFuncRecord
import Derived.Test.YtckhjoancfbkfaaGreatNG4
import Derived.Lib.AppendStr
import Derived.Test.YtckhjoancfbkfaaGreatNG1
import Derived.Test.YtckhjoancfbkfaaGreatNG2
import Derived.RangeFuncNested
import Derived.RangeFuncBound
import Derived.RangeFuncCalls
import Derived.RangeFuncLeaves
import Derived.RangeFuncBox
import Derived.Shelf.Abstract
import Derived.Shelf.RegionOpen
import Derived.OwnWalkIn
import Derived.TacticsInMore
import Derived.LoopNIn
import Derived.LoopIn
import Derived.Laws.EntriesVeiled
import Derived.Deep.RegionWith
namespace Go.Proofs.YtckhjoancfbkfaaGreat

section
open Go.RowKit

def kidS (k : Int) : Int := if k = 0 ∨ k = 1 ∨ k = 2 then 0 else if k = 4 ∨ k = 5 then 2 else 1

set_option maxHeartbeats 400000 in
theorem l2kids_any (k : Int) (w : World) : Calls Tryz.prog 105 #[.int .i64 k] w fun e w' => e = .returned (.int .i64 (kidS k)) ∧ w' = w := by
  go_enter Tryz.func105, Tryz.ntmps105
  go_wp2
  all_goals
    go_ret
    refine ⟨ri ?_, rfl⟩
    first | (simp_all [kidS]; done) | (unfold kidS; simp_all; omega)

theorem kidS_kidN {k : Int} (h0 : 0 ≤ k) (h7 : k ≤ 7) : kidS k = kidN k := by
  unfold kidS kidN
  by_cases h1 : k = 0 ∨ k = 1 ∨ k = 2
  · rw [if_pos h1, if_pos h1]
  · rw [if_neg h1, if_neg h1]
    by_cases h2 : k = 4 ∨ k = 5
    · rw [if_pos h2, if_neg (by omega), if_pos h2]
    · rw [if_neg h2, if_pos (by omega)]

theorem kidN_out {k : Int} (h : k < 0 ∨ 7 < k) : kidN k = -1 := by
  unfold kidN
  rw [if_neg (by omega), if_neg (by omega), if_neg (by omega)]

/-- A box of four cells. -/
def BoxC (W : World) (b : Nat) (v0 v1 v2 v3 : Value) : Prop := W.heap[b]? = some (.cells #[v0, v1, v2, v3] 37 (0, 0))

theorem BoxC.new (W : World) (v0 v1 v2 v3 : Value) : BoxC (W.alloc (.cells #[v0, v1, v2, v3] 37)) W.heap.size v0 v1 v2 v3 := World.alloc_heap_new W _
theorem BoxC.below {W W' : World} {b B : Nat} {v0 v1 v2 v3 : Value} (h : BoxC W b v0 v1 v2 v3) (hb : Below B W W') (hB : b < B) : BoxC W' b v0 v1 v2 v3 := (hb.block b hB).trans h
theorem BoxC.lt {W : World} {b : Nat} {v0 v1 v2 v3 : Value} (h : BoxC W b v0 v1 v2 v3) : b < W.heap.size := (Array.getElem?_eq_some_iff.1 h).1
theorem BoxC.cells {W : World} {b : Nat} {v0 v1 v2 v3 : Value} (h : BoxC W b v0 v1 v2 v3) : W.cell? ⟨b, 0, none⟩ = some v0 ∧ W.cell? ⟨b, 1, none⟩ = some v1 ∧ W.cell? ⟨b, 2, none⟩ = some v2 ∧ W.cell? ⟨b, 3, none⟩ = some v3 := by
  unfold BoxC at h
  refine ⟨?_, ?_, ?_, ?_⟩ <;> simp [World.cell?, h]

def OkC (d : Nat) : Prop := ∀ (v : Value) (c : CN) (deep : Nat) (left : Int) (w : World) (lo hi : Nat), RdC lo hi w d v c → hi ≤ w.heap.size → deep ≤ 7 → 0 ≤ left → left ≤ 16 →
  Calls Tryz.prog 60 #[v, .int .i64 deep, .int .i64 left] w fun e w' => e = .returned (.int .i64 (leftOf left (parts c deep))) ∧ Below w.heap.size w w'

set_option maxRecDepth 100000 in
set_option maxHeartbeats 1000000 in
theorem l2ok_bad {v : Value} {c : CN} {d deep : Nat} {left : Int} {w : World} {lo hi : Nat} (h : RdC lo hi w (d + 1) v c) (hdp : deep ≤ 7) (h0 : 0 ≤ left) (h16 : left ≤ 16)
    (hbad : left = 0 ∨ deep = 7 ∨ c.kind < 0 ∨ 7 < c.kind ∨ ((c.kids.length : Nat) : Int) ≠ kidS c.kind) :
    Calls Tryz.prog 60 #[v, .int .i64 deep, .int .i64 left] w fun e w' => e = .returned (.int .i64 (leftOf left (parts c deep))) ∧ Below w.heap.size w w' := by
  obtain ⟨na, nn, nc, ra, rn, rc, ka, kn, kc, rfl, hn, hr, hk⟩ := h
  have hkl := hk.len
  have hE : leftOf left (parts c deep) = -1 := by
    refine leftOf_bad c deep left ?_
    rcases hbad with h | h | h | h | h
    · exact .inl (by omega)
    · exact .inr (.inl (by omega))
    · exact .inr (.inr (by simp [shapeB, kidN_out (.inl h)]; done))
    · exact .inr (.inr (by simp [shapeB, kidN_out (.inr h)]; done))
    · by_cases ho : c.kind < 0 ∨ 7 < c.kind
      · exact .inr (.inr (by simp [shapeB, kidN_out ho]; done))
      · rw [kidS_kidN (by omega) (by omega)] at h
        exact .inr (.inr (by simp [shapeB, h]))
  have HE : Hid (leftOf left (parts c deep) = -1) := hE
  have HB : Hid (∀ n, Below w.heap.size w ((w.alloc (.cells #[.int .i64 c.kind, .slice na nn nc, .slice ra rn rc, .slice ka kn kc] 37)).drewN n)) := fun n => below_drewN ((Below.refl _ _).alloc (Nat.le_refl _) _) n
  obtain ⟨k, hkd⟩ : ∃ k, k = c.kind := ⟨_, rfl⟩
  rw [← hkd] at hbad HB ⊢
  rw [hkl] at hbad
  have hdi : (deep : Int) ≤ 7 := by omega
  clear hn hr hk hE hkd hkl
  go_enter Tryz.func60, Tryz.ntmps60
  go_wp2_with fail
  by_cases b1 : left = 0
  · subst b1
    go_quiet (fail)
    go_wp2_with fail
    go_ret
    exact ⟨ri HE.out.symm, HB.out _⟩
  · have d1 : decide (left - 1 < 0) = false := by simp; omega
    by_cases b2 : deep = 7
    · subst b2
      go_quiet (fail)
      go_wp2_with fail
      go_ret
      exact ⟨ri HE.out.symm, HB.out _⟩
    · have d2 : decide ((6 : Int) < (deep : Int)) = false := by simp; omega
      by_cases b3 : k < 0
      · go_quiet (fail)
        go_wp2_with fail
        go_ret
        exact ⟨ri HE.out.symm, HB.out _⟩
      · have d3 : decide (k < 0) = false := by simp; omega
        by_cases b4 : 7 < k
        · go_quiet (fail)
          go_wp2_with fail
          go_ret
          exact ⟨ri HE.out.symm, HB.out _⟩
        · have d4 : decide (7 < k) = false := by simp; omega
          have b5 : ((kn : Int) != kidS k) = true := by simp; omega
          clear hbad
          go_quiet (first | (go_at_call 105; exact Calls.quiet_of_same (l2kids_any _ _)))
          go_wp2_with fail
          go_ret
          exact ⟨ri HE.out.symm, HB.out _⟩
end

section
open Go.RowKit

/-- The word of a kind, as a string. -/
def wordB (k : Int) : ByteArray := if k = 0 then ⟨#[84, 111, 112]⟩ else if k = 1 then ⟨#[66, 111, 116]⟩ else if k = 3 then ⟨#[78, 111, 116]⟩ else if k = 4 then ⟨#[65, 110, 100]⟩ else if k = 5 then ⟨#[79, 114]⟩ else if k = 6 then ⟨#[83, 111, 109, 101]⟩ else if k = 7 then ⟨#[65, 108, 108]⟩ else ⟨#[]⟩

set_option maxHeartbeats 400000 in
theorem l2words_any (w : World) : Calls Tryz.prog 144 #[] w fun e w' => e = .returned (.slice (some ⟨w.heap.size, 0, none⟩) 8 8) ∧ (∀ i : Nat, i < 8 → w'.cell? ⟨w.heap.size, i, none⟩ = some (.string (wordB i))) ∧ Below w.heap.size w w' := by
  go_enter Tryz.func144, Tryz.ntmps144
  go_wp2
  go_ret
  refine ⟨rfl, fun i hi => ?_, (Below.refl _ _).alloc (Nat.le_refl _) _⟩
  match i, hi with
  | 0, _ | 1, _ | 2, _ | 3, _ | 4, _ | 5, _ | 6, _ | 7, _ => simp; rfl
end

section
open Go.RowKit

/-- Only numbers were turned, and only in the blocks from lo on, below hi. -/
structure MarkRel (lo hi : Nat) (w w' : World) : Prop where
  os : w'.os = w.os
  tape : w'.tape = w.tape
  output : w'.output = w.output
  size : w.heap.size ≤ w'.heap.size
  out : ∀ b, b < w.heap.size → (b < lo ∨ hi ≤ b) → w'.heap[b]? = w.heap[b]?
  cell : ∀ (p : Addr) (v : Value), w.cell? p = some v → w'.cell? p = some v ∨ ∃ kd m m', v = .int kd m ∧ w'.cell? p = some (.int kd m')
  frz : ∀ p : Addr, p.block < w.heap.size → w'.frozen? p = w.frozen? p

theorem MarkRel.refl (lo hi : Nat) (w : World) : MarkRel lo hi w w := ⟨rfl, rfl, rfl, Nat.le_refl _, fun _ _ _ => rfl, fun _ _ h => .inl h, fun _ _ => rfl⟩

theorem MarkRel.trans {lo hi : Nat} {a b c : World} (h : MarkRel lo hi a b) (k : MarkRel lo hi b c) : MarkRel lo hi a c := by
  refine ⟨k.os.trans h.os, k.tape.trans h.tape, k.output.trans h.output, Nat.le_trans h.size k.size, fun x h1 h2 => (k.out x (Nat.lt_of_lt_of_le h1 h.size) h2).trans (h.out x h1 h2), fun p v hp => ?_, fun p hp => (k.frz p (Nat.lt_of_lt_of_le hp h.size)).trans (h.frz p hp)⟩
  rcases h.cell p v hp with h1 | ⟨kd, m, m', e, h1⟩
  · exact k.cell p v h1
  · rcases k.cell p _ h1 with h2 | ⟨kd2, m2, m2', e2, h2⟩
    · exact .inr ⟨kd, m, m', e, h2⟩
    · simp only [Value.int.injEq] at e2
      obtain ⟨rfl, _⟩ := e2
      exact .inr ⟨kd, m, m2', e, h2⟩

theorem MarkRel.of_below {lo hi : Nat} {w w' : World} (h : Below w.heap.size w w') : MarkRel lo hi w w' :=
  ⟨h.os, h.tape, h.output, h.size, fun b h1 _ => h.block b h1, fun p _ hp => .inl ((h.cell (p := p) (block_lt_of_cell hp)).trans hp), fun p hp => World.frozen?_of_block (w := w) (h.block p.block hp)⟩

theorem MarkRel.set {lo hi : Nat} {w : World} {a : Addr} {kd : IntKind} {m : Int} (h : w.cell? a = some (.int kd m)) (h1 : lo ≤ a.block) (h2 : a.block < hi) (m' : Int) : MarkRel lo hi w (w.setCell a (.int kd m')) := by
  have hb := (Below.refl a.block w).setCell (p := a) (Nat.le_refl _) (.int kd m')
  refine ⟨hb.os, hb.tape, hb.output, hb.size, fun b _ hb' => Below.heap_setCell w a _ b (by omega), fun p v hp => ?_, fun p _ => by simp⟩
  by_cases e : a = p
  · subst e
    rw [h] at hp
    cases hp
    exact .inr ⟨kd, m, m', rfl, World.cell?_setCell_same _ _ _ h⟩
  · exact .inl (by rw [World.cell?_setCell_other _ _ _ _ e]; exact hp)

theorem MarkRel.keep {lo hi : Nat} {w w' : World} (h : MarkRel lo hi w w') {p : Addr} {v : Value} (hp : w.cell? p = some v) (hv : ∀ kd m, v ≠ .int kd m) : w'.cell? p = some v := by
  rcases h.cell p v hp with h1 | ⟨kd, m, _, e, _⟩
  · exact h1
  · exact absurd e (hv kd m)

theorem MarkRel.int {lo hi : Nat} {w w' : World} (h : MarkRel lo hi w w') {p : Addr} {kd : IntKind} {m : Int} (hp : w.cell? p = some (.int kd m)) : ∃ m', w'.cell? p = some (.int kd m') := by
  rcases h.cell p _ hp with h1 | ⟨kd', m1, m', e, h1⟩
  · exact ⟨m, h1⟩
  · simp only [Value.int.injEq] at e
    obtain ⟨rfl, _⟩ := e
    exact ⟨m', h1⟩

theorem markRel_marks {lo hi : Nat} {L : List (Addr × IntKind)} : ∀ {w : World}, LeafOk w L → (∀ x ∈ L, lo ≤ x.1.block ∧ x.1.block < hi) → ∀ k, MarkRel lo hi w (marks w L k) := by
  induction L with
  | nil => intro w _ _ k; exact MarkRel.refl _ _ _
  | cons x L ih =>
    intro w hL hB k
    obtain ⟨a, kd⟩ := x
    obtain ⟨⟨m, hm⟩, _⟩ := hL (a, kd) (by simp)
    have h1' := hL.set hm (kd.wrap k)
    have hb := hB (a, kd) (by simp)
    exact (MarkRel.set hm hb.1 hb.2 _).trans (ih (fun x hx => h1' x (by simp [hx])) (fun x hx => hB x (by simp [hx])) (k + 1))

/-- A slice of bytes, whatever they are. -/
structure ShB (lo hi : Nat) (w : World) (a : Option Addr) (n cap : Nat) : Prop where
  fits : n ≤ cap ∧ cap ≤ 9223372036854775807
  cells : n = 0 ∨ ∃ b off, a = some ⟨b, off, none⟩ ∧ lo ≤ b ∧ b < hi ∧ ∀ i, i < n → ∃ z, w.cell? ⟨b, off + i, none⟩ = some (.int .u8 z)

theorem Rd.sh {lo hi : Nat} {w : World} {a : Option Addr} {n cap : Nat} {zs : List Int} (h : Rd lo hi w a n cap zs) : ShB lo hi w a n cap := by
  obtain ⟨_, hm, _, hc⟩ := h
  refine ⟨hm, ?_⟩
  rcases hc with h0 | ⟨b, off, e, h1, h2, hc⟩
  · exact .inl h0
  · exact .inr ⟨b, off, e, h1, h2, fun i hi => ⟨_, hc i hi⟩⟩

/-- A concept, whatever its numbers are: c says how long its lists are. -/
def ShC (lo hi : Nat) (w : World) : Nat → Value → CN → Prop
  | 0, _, _ => False
  | d + 1, v, c => ∃ k na nn nc ra rn rc ka kn kc, v = .agg #[.int .i64 k, .slice na nn nc, .slice ra rn rc, .slice ka kn kc] ∧
      c.name.length = nn ∧ ShB lo hi w na nn nc ∧ c.role.length = rn ∧ ShB lo hi w ra rn rc ∧ RdL (ShC lo hi w d) lo hi w ka kn kc c.kids

theorem RdC.sh {lo hi : Nat} {w : World} : ∀ {d : Nat} {v : Value} {c : CN}, RdC lo hi w d v c → ShC lo hi w d v c := by
  intro d
  induction d with
  | zero => intro v c h; exact h
  | succ d ih =>
    intro v c h
    obtain ⟨na, nn, nc, ra, rn, rc, ka, kn, kc, hv, h1, h2, h3⟩ := h
    exact ⟨_, na, nn, nc, ra, rn, rc, ka, kn, kc, hv, h1.len, h1.sh, h2.len, h2.sh, h3.imp (fun v c h => ih h) (Same.refl _ _ _) (Nat.le_refl _) (Nat.le_refl _)⟩

theorem ShC.form {lo hi : Nat} {w : World} {d : Nat} {v0 v1 v2 v3 : Value} {c : CN} (h : ShC lo hi w d (.agg #[v0, v1, v2, v3]) c) : ∃ k na nn nc ra rn rc ka kn kc, v0 = .int .i64 k ∧ v1 = .slice na nn nc ∧ v2 = .slice ra rn rc ∧ v3 = .slice ka kn kc := by
  cases d with
  | zero => exact h.elim
  | succ d =>
    obtain ⟨k, na, nn, nc, ra, rn, rc, ka, kn, kc, hv, _⟩ := h
    simp only [Value.agg.injEq, Array.mk.injEq, List.cons.injEq, and_true] at hv
    exact ⟨k, na, nn, nc, ra, rn, rc, ka, kn, kc, hv.1, hv.2.1, hv.2.2.1, hv.2.2.2⟩
end

section
open Go.RowKit

structure AX where
  kind : Int
  c : CN
  d : CN
  r : List Int
  s : List Int
  a : List Int
  b : List Int

/-- Thirteen cells that read as this axiom. -/
structure RdA (lo hi : Nat) (w : World) (dp : Nat) (c0 c1 c2 c3 d0 d1 d2 d3 : Value) (ra : Option Addr) (rn rc : Nat) (sa : Option Addr) (sn sc : Nat) (aa : Option Addr) (an ac : Nat) (ba : Option Addr) (bn bc : Nat) (x : AX) : Prop where
  c : RdC lo hi w dp (.agg #[c0, c1, c2, c3]) x.c
  d : RdC lo hi w dp (.agg #[d0, d1, d2, d3]) x.d
  r : Rd lo hi w ra rn rc x.r
  s : Rd lo hi w sa sn sc x.s
  a : Rd lo hi w aa an ac x.a
  b : Rd lo hi w ba bn bc x.b

theorem RdA.below {lo hi B : Nat} {w w' : World} {dp : Nat} {c0 c1 c2 c3 d0 d1 d2 d3 : Value} {ra : Option Addr} {rn rc : Nat} {sa : Option Addr} {sn sc : Nat} {aa : Option Addr} {an ac : Nat} {ba : Option Addr} {bn bc : Nat} {x : AX}
    (h : RdA lo hi w dp c0 c1 c2 c3 d0 d1 d2 d3 ra rn rc sa sn sc aa an ac ba bn bc x) (hb : Below B w w') (hB : hi ≤ B) : RdA lo hi w' dp c0 c1 c2 c3 d0 d1 d2 d3 ra rn rc sa sn sc aa an ac ba bn bc x :=
  ⟨h.c.below hb hB, h.d.below hb hB, h.r.below hb hB, h.s.below hb hB, h.a.below hb hB, h.b.below hb hB⟩

/-- The box of an axiom. -/
def BoxA (t : Nat) (W : World) (p : Nat) (k : Int) (c0 c1 c2 c3 d0 d1 d2 d3 : Value) (r s a b : Value) : Prop := W.heap[p]? = some (.cells #[.int .i64 k, c0, c1, c2, c3, d0, d1, d2, d3, r, s, a, b] t (0, 0))

theorem BoxA.new (t : Nat) (W : World) (k : Int) (c0 c1 c2 c3 d0 d1 d2 d3 r s a b : Value) : BoxA t (W.alloc (.cells #[.int .i64 k, c0, c1, c2, c3, d0, d1, d2, d3, r, s, a, b] t)) W.heap.size k c0 c1 c2 c3 d0 d1 d2 d3 r s a b := World.alloc_heap_new W _
theorem BoxA.below {t : Nat} {W W' : World} {p B : Nat} {k : Int} {c0 c1 c2 c3 d0 d1 d2 d3 r s a b : Value} (h : BoxA t W p k c0 c1 c2 c3 d0 d1 d2 d3 r s a b) (hb : Below B W W') (hB : p < B) : BoxA t W' p k c0 c1 c2 c3 d0 d1 d2 d3 r s a b := (hb.block p hB).trans h
theorem BoxA.lt {t : Nat} {W : World} {p : Nat} {k : Int} {c0 c1 c2 c3 d0 d1 d2 d3 r s a b : Value} (h : BoxA t W p k c0 c1 c2 c3 d0 d1 d2 d3 r s a b) : p < W.heap.size := (Array.getElem?_eq_some_iff.1 h).1
theorem BoxA.cells {t : Nat} {W : World} {p : Nat} {k : Int} {c0 c1 c2 c3 d0 d1 d2 d3 r s a b : Value} (h : BoxA t W p k c0 c1 c2 c3 d0 d1 d2 d3 r s a b) :
    W.cell? ⟨p, 0, none⟩ = some (.int .i64 k) ∧ W.cell? ⟨p, 1, none⟩ = some c0 ∧ W.cell? ⟨p, 2, none⟩ = some c1 ∧ W.cell? ⟨p, 3, none⟩ = some c2 ∧ W.cell? ⟨p, 4, none⟩ = some c3 ∧ W.cell? ⟨p, 5, none⟩ = some d0 ∧ W.cell? ⟨p, 6, none⟩ = some d1 ∧ W.cell? ⟨p, 7, none⟩ = some d2 ∧ W.cell? ⟨p, 8, none⟩ = some d3 ∧
      W.cell? ⟨p, 9, none⟩ = some r ∧ W.cell? ⟨p, 10, none⟩ = some s ∧ W.cell? ⟨p, 11, none⟩ = some a ∧ W.cell? ⟨p, 12, none⟩ = some b := by
  unfold BoxA at h
  refine ⟨?_, ?_, ?_, ?_, ?_, ?_, ?_, ?_, ?_, ?_, ?_, ?_, ?_⟩ <;> simp [World.cell?, h]

/-! ### Which may be -/

def wantC (k : Int) : Bool := decide (k = 0) || decide (k = 1) || decide (k = 2) || decide (k = 4)
def wantD (k : Int) : Bool := decide (k = 0) || decide (k = 1) || decide (k = 2)
def wantR (k : Int) : Bool := decide (k = 3) || decide (k = 5)
def wantS (k : Int) : Bool := decide (k = 3)
def wantA (k : Int) : Bool := decide (k = 4) || decide (k = 5)
def wantB (k : Int) : Bool := decide (k = 5)

/-- The concept that is nothing but its zero value. -/
def zeroB (c : CN) : Bool := decide (c.kind = 0) && (decide (c.name.length = 0) && (decide (c.role.length = 0) && decide (c.kids.length = 0)))
def fitC (c : CN) (wanted : Bool) : Bool := if wanted = true then conOk c else zeroB c
def fitL (zs : List Int) (wanted : Bool) : Bool := if wanted = true then lowOk zs else decide (zs.length = 0)

def axOk (x : AX) : Bool := decide (0 ≤ x.kind ∧ x.kind ≤ 5) && (fitC x.c (wantC x.kind) && (fitC x.d (wantD x.kind) && (fitL x.r (wantR x.kind) && (fitL x.s (wantS x.kind) && (fitL x.a (wantA x.kind) && fitL x.b (wantB x.kind))))))

theorem ok_of_zero {c : CN} (h : zeroB c = true) : conOk c = true := by
  cases c with
  | mk k n r ks =>
    unfold zeroB at h
    simp only [CN.kind, CN.name, CN.role, CN.kids, Bool.and_eq_true] at h
    obtain ⟨h1, h2, h3, h4⟩ := h
    have h1 := of_decide_eq_true h1
    have h2 := of_decide_eq_true h2
    have h3 := of_decide_eq_true h3
    have h4 := of_decide_eq_true h4
    have e2 := List.eq_nil_of_length_eq_zero h2
    have e3 := List.eq_nil_of_length_eq_zero h3
    have e4 := List.eq_nil_of_length_eq_zero h4
    subst h1 e2 e3 e4
    decide +kernel
end

section
open Go.RowKit Go.Shelf

attribute [local go_sem] Oper.semAt_some

set_option maxHeartbeats 1000000 in
theorem kidsOf_in (n : Nat) (v0 v1 v2 v3 : Value) (w : World) :
    CallsIn Fence.wide n Tryz.prog 148 #[.agg #[v0, v1, v2, v3]] w fun e w' => e = .returned v3 ∧ w' = w.alloc (.cells #[v0, v1, v2, v3] 37) := by
  refine callsIn_of_wp Tryz.func148 rfl trivial ?_ rfl
  simp only [Tryz.ntmps148, List.size_toArray, List.length_cons, List.length_nil, Nat.reduceAdd, Nat.reduceSub, Array.replicate_succ, Array.replicate_zero, List.push_toArray, List.append_toArray, List.nil_append, List.cons_append]
  gi_wp2
  go_ret
  exact ⟨rfl, rfl⟩

set_option maxHeartbeats 1000000 in
theorem conTree_in (n : Nat) (k : Int) (na : Option Addr) (nn nc : Nat) (ra : Option Addr) (rn rc : Nat) (ka : Option Addr) (kn kc : Nat) (w : World) :
    CallsIn Fence.wide n Tryz.prog 121 #[.agg #[.int .i64 k, .slice na nn nc, .slice ra rn rc, .slice ka kn kc]] w fun e w' => e = .returned (.agg #[.int .i64 k, .slice na nn nc, .slice ra rn rc, .slice ka kn kc, .func (.func 148) #[] #[]]) ∧
      w' = (w.alloc (.cells #[.int .i64 k, .slice na nn nc, .slice ra rn rc, .slice ka kn kc] 37)).alloc (.cells #[.int .i64 k, .slice na nn nc, .slice ra rn rc, .slice ka kn kc, .func (.func 148) #[] #[]] 151) := by
  refine callsIn_of_wp Tryz.func121 rfl trivial ?_ rfl
  simp only [Tryz.ntmps121, List.size_toArray, List.length_cons, List.length_nil, Nat.reduceAdd, Nat.reduceSub, Array.replicate_succ, Array.replicate_zero, List.push_toArray, List.append_toArray, List.nil_append, List.cons_append]
  gi_wp2
  refine bodyPost_ret (v := .agg #[.int .i64 k, .slice na nn nc, .slice ra rn rc, .slice ka kn kc, .func (.func 148) #[] #[]]) (by simp [results, Tryz.results121, go_sem]) rfl ⟨rfl, rfl⟩

set_option maxHeartbeats 1000000 in
theorem all_in (n : Nat) (k : Int) (na : Option Addr) (nn nc : Nat) (ra : Option Addr) (rn rc : Nat) (ka : Option Addr) (kn kc : Nat) (w : World) :
    CallsIn Fence.wide n Tryz.prog 122 #[.agg #[.int .i64 k, .slice na nn nc, .slice ra rn rc, .slice ka kn kc, .func (.func 148) #[] #[]]] w fun e w' => e = .returned (.func (.func 149) #[] #[.pointer (some ⟨w.heap.size, 0, none⟩)]) ∧
      w' = w.alloc (.cells #[.int .i64 k, .slice na nn nc, .slice ra rn rc, .slice ka kn kc, .func (.func 148) #[] #[]] 151) := by
  refine callsIn_of_wp Tryz.func122 rfl trivial ?_ rfl
  simp only [Tryz.ntmps122, List.size_toArray, List.length_cons, List.length_nil, Nat.reduceAdd, Nat.reduceSub, Array.replicate_succ, Array.replicate_zero, List.push_toArray, List.append_toArray, List.nil_append, List.cons_append]
  gi_wp2
  go_ret
  exact ⟨rfl, rfl⟩
end

section
open Go.RowKit

set_option maxHeartbeats 400000 in
theorem kidCount_any (k : Int) (w : World) : Calls Tryz.prog 133 #[.int .i64 k] w fun e w' => e = .returned (.int .i64 (kidN k)) ∧ w' = w := by
  go_enter Tryz.func133, Tryz.ntmps133
  go_wp2
  all_goals
    go_ret
    refine ⟨ri ?_, rfl⟩
    first | (simp_all [kidN]; done) | (unfold kidN; simp_all; omega)

set_option maxHeartbeats 400000 in
theorem hasRole_any (k : Int) (w : World) : Calls Tryz.prog 134 #[.int .i64 k] w fun e w' => e = .returned (.bool (roleB k)) ∧ w' = w := by
  by_cases h : k = 6
  · subst h
    go_enter Tryz.func134, Tryz.ntmps134
    go_wp2
    go_ret
    exact ⟨rfl, rfl⟩
  · have h6 : (k == 6) = false := by simpa using h
    have HE : Hid (roleB k = (k == 7)) := by unfold Hid roleB; simp [h]; rfl
    go_enter Tryz.func134, Tryz.ntmps134
    go_wp2
    go_ret
    exact ⟨rb HE.out.symm, rfl⟩

set_option maxRecDepth 100000 in
set_option maxHeartbeats 1000000 in
theorem nameFits_any {d : Nat} {v : Value} {c : CN} {w : World} {lo hi : Nat} (h : RdC lo hi w d v c) (hhi : hi ≤ w.heap.size) :
    Calls Tryz.prog 155 #[v] w fun e w' => e = .returned (.bool (nameFit c)) ∧ Below w.heap.size w w' := by
  cases d with
  | zero => exact h.elim
  | succ d =>
    obtain ⟨na, nn, nc, ra, rn, rc, ka, kn, kc, rfl, hn, _, _⟩ := h
    have hnl := hn.len
    have hb0 : Below w.heap.size w (w.alloc (.cells #[.int .i64 c.kind, .slice na nn nc, .slice ra rn rc, .slice ka kn kc] 37)) := (Below.refl _ _).alloc (Nat.le_refl _) _
    have HB0 : Hid (Below w.heap.size w (w.alloc (.cells #[.int .i64 c.kind, .slice na nn nc, .slice ra rn rc, .slice ka kn kc] 37))) := hb0
    have HN : Hid (Rd lo hi (w.alloc (.cells #[.int .i64 c.kind, .slice na nn nc, .slice ra rn rc, .slice ka kn kc] 37)) na nn nc c.name) := hn.below hb0 hhi
    have HNF : Hid (nameFit c = if c.kind = 2 then (upOk c.name && !keptB (strOfNums c.name).toList) else decide (nn = 0)) := by unfold Hid nameFit; rw [hnl]
    obtain ⟨k, hkd⟩ : ∃ k, k = c.kind := ⟨_, rfl⟩
    rw [← hkd] at HB0 HN HNF ⊢
    clear hb0 hn hkd hnl
    by_cases k2 : k = 2
    · subst k2
      rw [if_pos rfl] at HNF
      cases hU : upOk c.name
      · have HX : Hid (nameFit c = false) := by unfold Hid; rw [HNF.out, hU]; rfl
        go_enter Tryz.func155, Tryz.ntmps155
        go_wp2_with (first | (go_at_call 154; refine (implUpperOk_any na nn nc c.name _ HN.out).mono ?_; rintro e w' ⟨rfl, hw⟩; rw [hw, hU]; clear hw))
        go_ret
        exact ⟨rb HX.out.symm, HB0.out⟩
      · obtain ⟨kp, hkp⟩ : ∃ kp, kp = keptB (strOfNums c.name).toList := ⟨_, rfl⟩
        have HX : Hid (nameFit c = !kp) := by unfold Hid; rw [HNF.out, hU, hkp]; rfl
        have HKp : Hid (kp = keptB (strOfNums c.name).toList) := hkp
        clear hkp
        go_enter Tryz.func155, Tryz.ntmps155
        go_wp2_with (first | (go_at_call 154; refine (implUpperOk_any na nn nc c.name _ HN.out).mono ?_; rintro e w' ⟨rfl, hw⟩; rw [hw, hU]; clear hw) | (go_at_call 132; refine (implKept_any na nn nc c.name _ HN.out).mono ?_; rintro e w' ⟨rfl, hw⟩; rw [hw, ← HKp.out]; clear hw))
        go_ret
        exact ⟨rb HX.out.symm, HB0.out⟩
    · rw [if_neg k2] at HNF
      have hk2 : (k == 2) = false := by simpa using k2
      have HX : Hid (nameFit c = ((nn : Int) == 0)) := by unfold Hid; rw [HNF.out]; by_cases h : nn = 0 <;> simp [h]
      go_enter Tryz.func155, Tryz.ntmps155
      go_wp2_with fail
      go_ret
      exact ⟨rb (by rw [HX.out]), HB0.out⟩

set_option maxRecDepth 100000 in
set_option maxHeartbeats 1000000 in
theorem roleFits_any {d : Nat} {v : Value} {c : CN} {w : World} {lo hi : Nat} (h : RdC lo hi w d v c) (hhi : hi ≤ w.heap.size) :
    Calls Tryz.prog 156 #[v] w fun e w' => e = .returned (.bool (roleFit c)) ∧ Below w.heap.size w w' := by
  cases d with
  | zero => exact h.elim
  | succ d =>
    obtain ⟨na, nn, nc, ra, rn, rc, ka, kn, kc, rfl, _, hr, _⟩ := h
    have hrl := hr.len
    have hb0 : Below w.heap.size w (w.alloc (.cells #[.int .i64 c.kind, .slice na nn nc, .slice ra rn rc, .slice ka kn kc] 37)) := (Below.refl _ _).alloc (Nat.le_refl _) _
    have HB0 : Hid (Below w.heap.size w (w.alloc (.cells #[.int .i64 c.kind, .slice na nn nc, .slice ra rn rc, .slice ka kn kc] 37))) := hb0
    have HR : Hid (Rd lo hi (w.alloc (.cells #[.int .i64 c.kind, .slice na nn nc, .slice ra rn rc, .slice ka kn kc] 37)) ra rn rc c.role) := hr.below hb0 hhi
    have HRF : Hid (roleFit c = if roleB c.kind = true then lowOk c.role else decide (rn = 0)) := by unfold Hid roleFit; rw [hrl]
    obtain ⟨k, hkd⟩ : ∃ k, k = c.kind := ⟨_, rfl⟩
    rw [← hkd] at HB0 HR HRF ⊢
    clear hb0 hr hkd hrl
    cases hm : roleB k
    · have HX : Hid (roleFit c = ((rn : Int) == 0)) := by unfold Hid; rw [HRF.out, hm, if_neg (by simp)]; by_cases h : rn = 0 <;> simp [h]
      go_enter Tryz.func156, Tryz.ntmps156
      go_wp2_with (first | (go_at_call 134; refine (hasRole_any _ _).mono ?_; rintro e w' ⟨rfl, hw⟩; rw [hw, hm]; clear hw))
      go_ret
      exact ⟨rb (by rw [HX.out]), HB0.out⟩
    · have HX : Hid (roleFit c = lowOk c.role) := by unfold Hid; rw [HRF.out, hm, if_pos rfl]
      go_enter Tryz.func156, Tryz.ntmps156
      go_wp2_with (first | (go_at_call 134; refine (hasRole_any _ _).mono ?_; rintro e w' ⟨rfl, hw⟩; rw [hw, hm]; clear hw) | (go_at_call 91; refine (implLowerOk_any ra rn rc c.role _ HR.out).mono ?_; rintro e w' ⟨rfl, hw⟩; rw [hw]; clear hw))
      go_ret
      exact ⟨rb HX.out.symm, HB0.out⟩
end

end Go.Proofs.YtckhjoancfbkfaaGreat
