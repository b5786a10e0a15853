/- Several texts in one: OwnI, IntMark, WdMark, LongMark. -/
import Derived.Test.YtknainelonaigaaGreatDoorNWd
import Derived.Test.YtknainelonaigaaGreatDoorNCon
namespace Go.Proofs.YtknainelonaigaaGreatDoor

section
open Go.RowKit

def OwnI (base : Nat) (w : World) (v : Value) (zs : List Int) : Prop := w.ownsRow base 3 1 v zs.length (zs.map (Value.int .i64))

theorem OwnI.nil (base : Nat) (w : World) : OwnI base w (.slice none 0 0) [] := World.ownsRow_nil _ _ _ _

theorem OwnI.below {base B : Nat} {w w' : World} {v : Value} {zs : List Int} (h : OwnI base w v zs) (hb : Below B w w') (hB : w.heap.size ≤ B) : OwnI base w' v zs := by
  obtain ⟨h1, h2⟩ := h
  refine ⟨h1, ?_⟩
  rcases h2 with h2 | ⟨g, cap, cur, hv, hg, hh, r⟩
  · exact .inl h2
  · exact .inr ⟨g, cap, cur, hv, hg, by rw [hb.block g (Nat.lt_of_lt_of_le (Array.getElem?_eq_some_iff.1 hh).1 hB)]; exact hh, r⟩

/-- The leaves of a row of numbers. -/
def leafI (b off n : Nat) : List (Addr × IntKind) := (List.range n).map fun j => (⟨b, off + j, none⟩, .i64)

/-- What it is: nil, with nothing in it; or a row of its own. -/
theorem OwnI.form {base : Nat} {w : World} {v : Value} {zs : List Int} (h : OwnI base w v zs) :
    ∃ a c b, v = .slice a zs.length c ∧ RI base w.heap.size w a zs.length c zs ∧ (zs.length = 0 ∨ a = some ⟨b, 0, none⟩) ∧ LeafOk w (leafI b 0 zs.length) ∧ (zs.length = 0 ∨ (base ≤ b ∧ b < w.heap.size)) := by
  by_cases hz : zs.length = 0
  · rcases h.2 with ⟨hv, _⟩ | ⟨g, cap, cur, hv, _, _, _, hc2, _⟩
    · refine ⟨none, 0, 0, by rw [hv, hz], ⟨rfl, by omega, .inl hz⟩, .inl hz, ?_, .inl hz⟩
      rw [hz]; intro x hx; simp [leafI] at hx
    · unfold maxLen at hc2
      refine ⟨_, cap, 0, hv, ⟨rfl, by omega, .inl hz⟩, .inl hz, ?_, .inl hz⟩
      rw [hz]; intro x hx; simp [leafI] at hx
  · obtain ⟨h1, h2⟩ := h
    rcases h2 with ⟨_, h0⟩ | ⟨g, cap, cur, hv, hg, hh, hc1, hc2, hc3, hc4⟩
    · exact absurd h0 hz
    · simp only [Nat.mul_one] at hc3 hc4
      unfold maxLen at hc2
      have hlt : g < w.heap.size := (Array.getElem?_eq_some_iff.1 hh).1
      have hcell : ∀ i, i < zs.length → w.cell? ⟨g, i, none⟩ = some (.int .i64 (zs.getD i 0)) := by
        intro i hi
        have e : (cur.toList.take zs.length)[i]? = (zs.map (Value.int .i64))[i]? := by rw [hc4]
        rw [List.getElem?_take, if_pos hi] at e
        simp only [Array.getElem?_toList] at e
        rw [show (zs.map (Value.int .i64))[i]? = some (.int .i64 (zs.getD i 0)) by simp [List.getD, hi]] at e
        simp [World.cell?, hh, e]
      refine ⟨_, cap, g, hv, ⟨rfl, ⟨hc1, hc2⟩, .inr ⟨g, 0, rfl, hg, hlt, fun i hi => ⟨_, by rw [Nat.zero_add]; exact hcell i hi, rfl⟩⟩⟩, .inr rfl, ?_, .inr ⟨hg, hlt⟩⟩
      intro x hx
      simp only [leafI, List.mem_map, List.mem_range] at hx
      obtain ⟨j, hj, rfl⟩ := hx
      simp only [Nat.zero_add]
      exact ⟨⟨_, hcell j hj⟩, by simp [World.frozen?, hh]⟩
end

section
open Go.RowKit
end

section
open Go.RowKit
set_option linter.unusedVariables false

/-- Only numbers and flags were turned, and only in the blocks from lo on, below hi. -/
structure MarkW (lo hi : Nat) (w w' : World) : Prop where
  os : w'.os = w.os
  tape : w'.tape = w.tape
  output : w'.output = w.output
  size : w.heap.size ≤ w'.heap.size
  out : ∀ b, b < w.heap.size → (b < lo ∨ hi ≤ b) → w'.heap[b]? = w.heap[b]?
  cell : ∀ (p : Addr) (v : Value), w.cell? p = some v → w'.cell? p = some v ∨ (∃ kd m m', v = .int kd m ∧ w'.cell? p = some (.int kd m')) ∨ ∃ b b', v = .bool b ∧ w'.cell? p = some (.bool b')
  frz : ∀ p : Addr, p.block < w.heap.size → w'.frozen? p = w.frozen? p

theorem MarkW.refl (lo hi : Nat) (w : World) : MarkW lo hi w w := ⟨rfl, rfl, rfl, Nat.le_refl _, fun _ _ _ => rfl, fun _ _ h => .inl h, fun _ _ => rfl⟩

theorem MarkRel.toW {lo hi : Nat} {w w' : World} (h : MarkRel lo hi w w') : MarkW lo hi w w' :=
  ⟨h.os, h.tape, h.output, h.size, h.out, fun p v hp => (h.cell p v hp).imp id Or.inl, h.frz⟩

theorem MarkW.trans {lo hi : Nat} {a b c : World} (h : MarkW lo hi a b) (k : MarkW lo hi b c) : MarkW lo hi a c := by
  refine ⟨k.os.trans h.os, k.tape.trans h.tape, k.output.trans h.output, Nat.le_trans h.size k.size, fun x h1 h2 => (k.out x (Nat.lt_of_lt_of_le h1 h.size) h2).trans (h.out x h1 h2), fun p v hp => ?_, fun p hp => (k.frz p (Nat.lt_of_lt_of_le hp h.size)).trans (h.frz p hp)⟩
  rcases h.cell p v hp with h1 | ⟨kd, m, m', e, h1⟩ | ⟨x, x', e, h1⟩
  · exact k.cell p v h1
  · rcases k.cell p _ h1 with h2 | ⟨kd2, m2, m2', e2, h2⟩ | ⟨y, y', e2, h2⟩
    · exact .inr (.inl ⟨kd, m, m', e, h2⟩)
    · simp only [Value.int.injEq] at e2
      obtain ⟨rfl, _⟩ := e2
      exact .inr (.inl ⟨kd, m, m2', e, h2⟩)
    · cases e2
  · rcases k.cell p _ h1 with h2 | ⟨kd2, m2, m2', e2, h2⟩ | ⟨y, y', e2, h2⟩
    · exact .inr (.inr ⟨x, x', e, h2⟩)
    · cases e2
    · exact .inr (.inr ⟨x, y', e, h2⟩)

theorem MarkW.slice {lo hi : Nat} {w w' : World} (h : MarkW lo hi w w') {p : Addr} {a : Option Addr} {n c : Nat} (hp : w.cell? p = some (.slice a n c)) : w'.cell? p = some (.slice a n c) := by
  rcases h.cell p _ hp with h1 | ⟨_, _, _, e, _⟩ | ⟨_, _, e, _⟩
  · exact h1
  · cases e
  · cases e

theorem MarkW.int {lo hi : Nat} {w w' : World} (h : MarkW lo hi w w') {p : Addr} {kd : IntKind} {m : Int} (hp : w.cell? p = some (.int kd m)) : ∃ m', w'.cell? p = some (.int kd m') := by
  rcases h.cell p _ hp with h1 | ⟨kd', m1, m', e, h1⟩ | ⟨_, _, e, _⟩
  · exact ⟨m, h1⟩
  · simp only [Value.int.injEq] at e
    obtain ⟨rfl, _⟩ := e
    exact ⟨m', h1⟩
  · cases e

theorem MarkW.flag {lo hi : Nat} {w w' : World} (h : MarkW lo hi w w') {p : Addr} {m : Bool} (hp : w.cell? p = some (.bool m)) : ∃ m', w'.cell? p = some (.bool m') := by
  rcases h.cell p _ hp with h1 | ⟨kd', m1, m', e, h1⟩ | ⟨_, b', e, h1⟩
  · exact ⟨m, h1⟩
  · cases e
  · exact ⟨b', h1⟩

theorem Free.markW {lo hi lo' hi' : Nat} {w w' : World} (h : Free lo hi w) (hm : MarkW lo' hi' w w') (hh : hi ≤ w.heap.size) : Free lo hi w' := fun b h1 h2 o => (hm.frz ⟨b, o, none⟩ (Nat.lt_of_lt_of_le h2 hh)).trans (h b h1 h2 o)

/-- A list of flags, whatever they are. -/
structure ShF (lo hi : Nat) (w : World) (a : Option Addr) (n cap : Nat) : Prop where
  fits : n ≤ cap ∧ cap ≤ 9223372036854775807
  cells : n = 0 ∨ ∃ b off, a = some ⟨b, off, none⟩ ∧ lo ≤ b ∧ b < hi ∧ ∀ i, i < n → ∃ z, w.cell? ⟨b, off + i, none⟩ = some (.bool z)

theorem RB.sh {lo hi : Nat} {w : World} {a : Option Addr} {n cap : Nat} {xs : List Bool} (h : RB lo hi w a n cap xs) : ShF lo hi w a n cap := by
  obtain ⟨_, hm, hc⟩ := h
  refine ⟨hm, hc.imp id ?_⟩
  rintro ⟨b, off, e, h1, h2, hc⟩
  exact ⟨b, off, e, h1, h2, fun i hi => by obtain ⟨v, hv, rfl⟩ := hc i hi; exact ⟨_, hv⟩⟩

theorem ShF.mark {lo hi lo' hi' : Nat} {w w' : World} (hm : MarkW lo' hi' w w') {a : Option Addr} {n cap : Nat} (h : ShF lo hi w a n cap) : ShF lo hi w' a n cap := by
  obtain ⟨hf, hc⟩ := h
  refine ⟨hf, hc.imp id ?_⟩
  rintro ⟨b, off, e, h1, h2, hc⟩
  exact ⟨b, off, e, h1, h2, fun i hi => by obtain ⟨z, hz⟩ := hc i hi; exact hm.flag hz⟩

theorem ShB.markW {lo hi lo' hi' : Nat} {w w' : World} (hm : MarkW lo' hi' w w') {a : Option Addr} {n cap : Nat} (h : ShB lo hi w a n cap) : ShB lo hi w' a n cap := by
  obtain ⟨hf, hc⟩ := h
  refine ⟨hf, hc.imp id ?_⟩
  rintro ⟨b, off, e, h1, h2, hc⟩
  exact ⟨b, off, e, h1, h2, fun i hi => by obtain ⟨z, hz⟩ := hc i hi; exact hm.int hz⟩

/-- A list of numbers, whatever they are. -/
structure ShI (lo hi : Nat) (w : World) (a : Option Addr) (n cap : Nat) : Prop where
  fits : n ≤ cap ∧ cap ≤ 9223372036854775807
  cells : n = 0 ∨ ∃ b off, a = some ⟨b, off, none⟩ ∧ lo ≤ b ∧ b < hi ∧ ∀ i, i < n → ∃ z, w.cell? ⟨b, off + i, none⟩ = some (.int .i64 z)

theorem RI.sh {lo hi : Nat} {w : World} {a : Option Addr} {n cap : Nat} {xs : List Int} (h : RI lo hi w a n cap xs) : ShI lo hi w a n cap := by
  obtain ⟨_, hm, hc⟩ := h
  refine ⟨hm, hc.imp id ?_⟩
  rintro ⟨b, off, e, h1, h2, hc⟩
  exact ⟨b, off, e, h1, h2, fun i hi => by obtain ⟨v, hv, rfl⟩ := hc i hi; exact ⟨_, hv⟩⟩

theorem ShI.mark {lo hi lo' hi' : Nat} {w w' : World} (hm : MarkW lo' hi' w w') {a : Option Addr} {n cap : Nat} (h : ShI lo hi w a n cap) : ShI lo hi w' a n cap := by
  obtain ⟨hf, hc⟩ := h
  refine ⟨hf, hc.imp id ?_⟩
  rintro ⟨b, off, e, h1, h2, hc⟩
  exact ⟨b, off, e, h1, h2, fun i hi => by obtain ⟨z, hz⟩ := hc i hi; exact hm.int hz⟩

theorem MarkW.setI {lo hi : Nat} {w : World} {a : Addr} {kd : IntKind} {m : Int} (h : w.cell? a = some (.int kd m)) (h1 : lo ≤ a.block) (h2 : a.block < hi) (m' : Int) : MarkW lo hi w (w.setCell a (.int kd m')) := (MarkRel.set h h1 h2 m').toW

set_option maxRecDepth 100000 in
set_option maxHeartbeats 1000000 in
theorem markBW_any (a : Option Addr) (n cap : Nat) (k : Int) (w : World) {lo hi : Nat} (h : ShB lo hi w a n cap) (hF : Free lo hi w) (hhi : hi ≤ w.heap.size) (hn : n ≤ 1048576) (hk : 0 ≤ k ∧ k ≤ 1152921504606846976) :
    Calls Tryz.prog 11 #[.slice a n cap, .int .i64 k] w fun e w' => e = .returned (.int .i64 (k + n)) ∧ MarkW lo hi w w' := by
  obtain ⟨hk0, hk1⟩ := hk
  rcases h.cells with h0 | ⟨b, off, rfl, h1, h2, hc⟩
  · subst h0
    clear h hF
    go_enter Tryz.func11, Tryz.ntmps11
    go_wp2
    refine wp_loop_rounds 1 ?_
    rw [rounds_succ]
    go_wp2
    go_ret
    exact ⟨ri (by simp), MarkW.refl _ _ _⟩
  · have HC : Hid (∀ i, i < n → ∃ z, w.cell? ⟨b, off + i, none⟩ = some (.int .u8 z)) := hc
    have HF : Hid (Free lo hi w) := hF
    clear hc hF h
    go_enter Tryz.func11, Tryz.ntmps11
    go_wp2
    go_loopw [1, 5] (fun q i wr => ∃ j : Nat, j ≤ n ∧ i = .int .i64 j ∧ q = .int .i64 (k + j) ∧ MarkW lo hi w wr) (fun _ i _ => n - (intOf i).toNat)
    case atStart => exact ⟨0, Nat.zero_le _, rfl, by simp, MarkW.refl _ _ _⟩
    case round =>
      obtain ⟨j, hj, rfl, rfl, hm⟩ := hrel
      have HM : Hid (MarkW lo hi w wr) := hm
      by_cases hlt : j < n
      · obtain ⟨z, hz⟩ := HC.out j hlt
        obtain ⟨y, hy⟩ := hm.int hz
        have hf : wr.frozen? ⟨b, off + j, none⟩ = false := HF.out.markW hm hhi b h1 h2 _
        have HN : Hid (∀ m', MarkW lo hi w (wr.setCell ⟨b, off + j, none⟩ (.int .u8 m'))) := fun m' => hm.trans (MarkW.setI hy h1 h2 m')
        clear hm hz
        go_wp2
        go_roundw
        case rel => exact ⟨j + 1, by omega, by go_num, by go_num, HN.out _⟩
        case measure => simp [intOf]; omega
      · have HE : Hid (k + (j : Int) = k + n) := by unfold Hid; omega
        clear hm
        go_wp2
        go_ret
        exact ⟨ri HE.out, HM.out⟩

/-- A list of such lists. -/
structure markBBSh (lo hi : Nat) (w : World) (a : Option Addr) (n cap : Nat) : Prop where
  fits : n ≤ cap ∧ cap ≤ 9223372036854775807
  cells : n = 0 ∨ ∃ b off, a = some ⟨b, off, none⟩ ∧ lo ≤ b ∧ b < hi ∧ ∀ i, i < n → ∃ a' n' c', w.cell? ⟨b, off + i, none⟩ = some (.slice a' n' c') ∧ n' ≤ 1048576 ∧ ShB lo hi w a' n' c'

theorem RSS.sh {lo hi : Nat} {w : World} {a : Option Addr} {n cap : Nat} {xs : List (List Int)} (h : RSS lo hi w a n cap xs) (hb : ∀ i, i < n → (xs.getD i []).length ≤ 1048576) : markBBSh lo hi w a n cap := by
  obtain ⟨_, hm, hc⟩ := h
  refine ⟨hm, hc.imp id ?_⟩
  rintro ⟨b, off, e, h1, h2, hc⟩
  refine ⟨b, off, e, h1, h2, fun i hi => ?_⟩
  obtain ⟨v, hv, a', n', c', rfl, hr⟩ := hc i hi
  exact ⟨a', n', c', hv, by have := hb i hi; rw [hr.len] at this; exact this, hr.sh⟩

theorem markBBSh.mark {lo hi lo' hi' : Nat} {w w' : World} (hm : MarkW lo' hi' w w') {a : Option Addr} {n cap : Nat} (h : markBBSh lo hi w a n cap) : markBBSh lo hi w' a n cap := by
  obtain ⟨hf, hc⟩ := h
  refine ⟨hf, hc.imp id ?_⟩
  rintro ⟨b, off, e, h1, h2, hc⟩
  refine ⟨b, off, e, h1, h2, fun i hi => ?_⟩
  obtain ⟨a', n', c', hv, hn, hr⟩ := hc i hi
  exact ⟨a', n', c', hm.slice hv, hn, ShB.markW hm hr⟩

set_option maxRecDepth 100000 in
set_option maxHeartbeats 1000000 in
theorem markBB_any (a : Option Addr) (n cap : Nat) (k : Int) (w : World) {lo hi : Nat} (h : markBBSh lo hi w a n cap) (hF : Free lo hi w) (hhi : hi ≤ w.heap.size) (hn : n ≤ 1048576) (hk : 0 ≤ k ∧ k ≤ 1125899906842624) :
    Calls Tryz.prog 31 #[.slice a n cap, .int .i64 k] w fun e w' => ∃ t : Nat, e = .returned (.int .i64 (k + t)) ∧ t ≤ 1099511627776 ∧ MarkW lo hi w w' := by
  obtain ⟨hk0, hk1⟩ := hk
  have hfit := h.fits
  have HR : Hid (markBBSh lo hi w a n cap) := h
  have HF : Hid (Free lo hi w) := hF
  clear h hF
  go_enter Tryz.func31, Tryz.ntmps31
  go_wp2
  go_loopw [1, 5] (fun q i wr => ∃ j t : Nat, j ≤ n ∧ t ≤ j * 1048576 ∧ i = .int .i64 j ∧ q = .int .i64 (k + t) ∧ MarkW lo hi w wr) (fun _ i _ => n - (intOf i).toNat)
  case atStart => exact ⟨0, 0, Nat.zero_le _, by omega, rfl, by simp, MarkW.refl _ _ _⟩
  case round =>
    obtain ⟨j, t, hj, ht, rfl, rfl, hm⟩ := hrel
    have HM : Hid (MarkW lo hi w wr) := hm
    by_cases hlt : j < n
    · have hji : (j : Int) < (n : Int) := by omega
      have hFr : Hid (Free lo hi wr) := HF.out.markW hm hhi
      have hsz := hm.size
      rcases (HR.out.mark hm).cells with h0 | ⟨b, off, rfl, h1, h2, hc⟩
      · omega
      · obtain ⟨a', n', c', hv, hn', hr⟩ := hc j hlt
        have HSh : Hid (ShB lo hi wr a' n' c') := hr
        clear hm hc hr
        go_wp2_with fail
        refine (markBW_any a' n' c' (k + t) wr HSh.out hFr.out (by omega) hn' (by omega)).mono ?_
        rintro e w1 ⟨rfl, hm1⟩
        have HM1 : Hid (MarkW lo hi w w1) := HM.out.trans hm1
        clear hm1 hv
        go_wp2_with fail
        go_roundw
        case rel => exact ⟨j + 1, t + n', by omega, by omega, by go_num, by go_num, HM1.out⟩
        case measure => simp [intOf]; omega
    · clear hm
      go_wp2_with fail
      go_ret
      exact ⟨t, rfl, by omega, HM.out⟩

/-- A list of such lists. -/
structure markFFSh (lo hi : Nat) (w : World) (a : Option Addr) (n cap : Nat) : Prop where
  fits : n ≤ cap ∧ cap ≤ 9223372036854775807
  cells : n = 0 ∨ ∃ b off, a = some ⟨b, off, none⟩ ∧ lo ≤ b ∧ b < hi ∧ ∀ i, i < n → ∃ a' n' c', w.cell? ⟨b, off + i, none⟩ = some (.slice a' n' c') ∧ n' ≤ 1048576 ∧ ShF lo hi w a' n' c'

theorem RFF.sh {lo hi : Nat} {w : World} {a : Option Addr} {n cap : Nat} {xs : List (List Bool)} (h : RFF lo hi w a n cap xs) (hb : ∀ i, i < n → (xs.getD i []).length ≤ 1048576) : markFFSh lo hi w a n cap := by
  obtain ⟨_, hm, hc⟩ := h
  refine ⟨hm, hc.imp id ?_⟩
  rintro ⟨b, off, e, h1, h2, hc⟩
  refine ⟨b, off, e, h1, h2, fun i hi => ?_⟩
  obtain ⟨v, hv, a', n', c', rfl, hr⟩ := hc i hi
  exact ⟨a', n', c', hv, by have := hb i hi; rw [hr.len] at this; exact this, hr.sh⟩

theorem markFFSh.mark {lo hi lo' hi' : Nat} {w w' : World} (hm : MarkW lo' hi' w w') {a : Option Addr} {n cap : Nat} (h : markFFSh lo hi w a n cap) : markFFSh lo hi w' a n cap := by
  obtain ⟨hf, hc⟩ := h
  refine ⟨hf, hc.imp id ?_⟩
  rintro ⟨b, off, e, h1, h2, hc⟩
  refine ⟨b, off, e, h1, h2, fun i hi => ?_⟩
  obtain ⟨a', n', c', hv, hn, hr⟩ := hc i hi
  exact ⟨a', n', c', hm.slice hv, hn, ShF.mark hm hr⟩
end

section
open Go.RowKit

set_option maxHeartbeats 400000 in
theorem markLong_any (a : Option Addr) (n cap : Nat) (k : Int) (w : World) (b off : Nat) (ha : n = 0 ∨ a = some ⟨b, off, none⟩) (hL : LeafOk w (leafB b off n)) (hn : n ≤ 67108864) (hk : 0 ≤ k ∧ k ≤ 1073741824) :
    Calls Tryz.prog 11 #[.slice a n cap, .int .i64 k] w fun e w' => e = .returned (.int .i64 (k + n)) ∧ w' = marks w (leafB b off n) k := by
  obtain ⟨hk0, hk1⟩ := hk
  rcases ha with h0 | rfl
  · subst h0
    clear hL
    go_enter Tryz.func11, Tryz.ntmps11
    go_wp2
    refine wp_loop_rounds 1 ?_
    rw [rounds_succ]
    go_wp2
    go_ret
    exact ⟨ri (by simp), rfl⟩
  · have HL : Hid (LeafOk w (leafB b off n)) := hL
    clear hL
    go_enter Tryz.func11, Tryz.ntmps11
    go_wp2
    go_loopw [1, 5] (fun q i wr => ∃ j : Nat, j ≤ n ∧ i = .int .i64 j ∧ q = .int .i64 (k + j) ∧ wr = marks w (leafB b off j) k) (fun _ i _ => n - (intOf i).toNat)
    case atStart => exact ⟨0, Nat.zero_le _, rfl, by simp, rfl⟩
    case round =>
      obtain ⟨j, hj, rfl, rfl, hwr⟩ := hrel
      by_cases hlt : j < n
      · have hsub : ∀ x ∈ leafB b off j, x ∈ leafB b off n := by
          intro x hx; simp only [leafB, List.mem_map, List.mem_range] at hx ⊢; obtain ⟨i, hi, e⟩ := hx; exact ⟨i, by omega, e⟩
        have hLj : LeafOk w (leafB b off j) := fun x hx => HL.out x (hsub x hx)
        have hmem : ((⟨b, off + j, none⟩ : Addr), IntKind.u8) ∈ leafB b off n := by simp only [leafB, List.mem_map, List.mem_range]; exact ⟨j, hlt, rfl⟩
        have hOk := (hLj.marks HL.out k).1 _ hmem
        rw [← hwr] at hOk
        obtain ⟨⟨m, hm⟩, hf⟩ := hOk
        have HW : Hid (wr.setCell ⟨b, off + j, none⟩ (.int .u8 (IntKind.u8.wrap (k + j))) = marks w (leafB b off (j + 1)) k) := by
          unfold Hid; rw [leafB_succ, marks_append, ← hwr, leafB_length]; rfl
        clear hsub hLj hmem hwr
        go_wp2
        go_roundw
        case rel => exact ⟨j + 1, by omega, by go_num, by go_num, HW.out⟩
        case measure => simp [intOf]; omega
      · have hjn : j = n := by omega
        have HW : Hid (wr = marks w (leafB b off n) k) := by rw [← hjn]; exact hwr
        have HE : Hid (k + (j : Int) = k + n) := by unfold Hid; omega
        clear hwr hjn
        go_wp2
        go_ret
        exact ⟨ri HE.out, HW.out⟩

set_option maxHeartbeats 400000 in
theorem heldLong_any (a : Option Addr) (n cap : Nat) (k : Int) (w : World) (b off : Nat) (ha : n = 0 ∨ a = some ⟨b, off, none⟩) (hc : ∀ j, j < n → w.cell? ⟨b, off + j, none⟩ = some (.int .u8 (IntKind.u8.wrap (k + j)))) (hn : n ≤ 67108864) (hk : 0 ≤ k ∧ k ≤ 1073741824) :
    Calls Tryz.prog 12 #[.slice a n cap, .int .i64 k] w fun e w' => e = .returned (.int .i64 (k + n)) ∧ w' = w := by
  obtain ⟨hk0, hk1⟩ := hk
  rcases ha with h0 | rfl
  · subst h0
    clear hc
    go_enter Tryz.func12, Tryz.ntmps12
    go_wp2
    refine wp_loop_rounds 1 ?_
    rw [rounds_succ]
    go_wp2
    go_ret
    exact ⟨ri (by simp), rfl⟩
  · have HC : Hid (∀ j, j < n → w.cell? ⟨b, off + j, none⟩ = some (.int .u8 (IntKind.u8.wrap (k + j)))) := hc
    clear hc
    go_enter Tryz.func12, Tryz.ntmps12
    go_wp2
    go_loop [1, 5] (fun q i => ∃ j : Nat, j ≤ n ∧ i = .int .i64 j ∧ q = .int .i64 (k + j)) (fun _ i => n - (intOf i).toNat)
    case atStart => exact ⟨0, Nat.zero_le _, rfl, by simp⟩
    case round =>
      obtain ⟨j, hj, rfl, rfl⟩ := hrel
      by_cases hlt : j < n
      · have hm := HC.out j hlt
        go_wp2
        go_round
        case rel => exact ⟨j + 1, by omega, by go_num, by go_num⟩
        case measure => simp [intOf]; omega
      · have HE : Hid (k + (j : Int) = k + n) := by unfold Hid; omega
        go_wp2
        go_ret
        exact ⟨ri HE.out, rfl⟩
end

end Go.Proofs.YtknainelonaigaaGreatDoor
