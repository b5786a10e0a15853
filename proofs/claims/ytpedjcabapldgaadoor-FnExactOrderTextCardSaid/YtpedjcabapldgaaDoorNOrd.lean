/- Several texts in one: WdFree, IntMark, WdMark, OrdFree, OrdMark, OrdTB. -/
import Derived.Test.YtpedjcabapldgaaDoorWdLaw3
import Derived.Test.YtpedjcabapldgaaDoorConTo
import Derived.Test.YtpedjcabapldgaaDoorOwnI
import Derived.Test.YtpedjcabapldgaaDoorConMark
import Derived.Test.YtpedjcabapldgaaDoorOrdLaw2
import Derived.Test.YtpedjcabapldgaaDoorOrdMem
import Derived.Deep.DeepCutAuto
import Derived.Test.YtpedjcabapldgaaDoorOrdTS
namespace Go.Proofs.YtpedjcabapldgaaDoor

section
open Go.RowKit

set_option maxHeartbeats 1600000 in
theorem toByteSS_fr (a : Option Addr) (n cap : Nat) (xs : List (List Int)) (w : World) {lo hi : Nat} (h : RSS lo hi w a n cap xs) (hhi : hi ≤ w.heap.size) (hn : n ≤ 1048576) (hln : ∀ i, i < n → (xs.getD i []).length ≤ 1048576) :
    Calls Tryd.prog 28 #[.slice a n cap] w fun e w' => e = .returned (.slice (some ⟨w.heap.size, 0, none⟩) n n) ∧ RSS w.heap.size w'.heap.size w' (some ⟨w.heap.size, 0, none⟩) n n xs ∧ Below w.heap.size w w' ∧ Free w.heap.size w'.heap.size w' := by
  have HR0 : Hid (RSS lo hi w a n cap xs) := h
  obtain ⟨hl, ⟨hm, _⟩, _⟩ := h
  have hmk := fun w : World => run_make_row' (P := Tryd.prog) 42 27 (.slice none 0 0) 24 Tryd.underlying42 Tryd.infotoByteSS rfl .i64 .i64 n (by omega) (by omega) w
  have HL : Hid (xs.length = n) := hl
  have h0 : Hid ((w.alloc (.cells (madeCells #[(.slice none 0 0)] n) 27)).rowIs w.heap.size 27 n (partV (.slice none 0 0) (fun _ => (.slice none 0 0)) 0)) := (World.rowIs_made w (.slice none 0 0) n 27).congr (fun i _ => by simp [partV])
  have HLn0 : Hid (∀ i, i < n → (xs.getD i []).length ≤ 1048576) := hln
  clear hl hln
  go_enter Tryd.func28, Tryd.ntmps28
  go_wp2_with fail
  go_loopw [4] (fun i wr => ∃ (k : Nat) (V : Nat → Value), k ≤ n ∧ i = .int .i64 k ∧ wr.rowIs w.heap.size 27 n (partV (.slice none 0 0) V k) ∧ (∀ j, j < k → SlB (w.heap.size + 1) wr.heap.size wr (V j) (xs.getD j [])) ∧ Below w.heap.size w wr ∧ w.heap.size + 1 ≤ wr.heap.size ∧ Free (w.heap.size + 1) wr.heap.size wr) (fun i _ => n - (intOf i).toNat)
  case atStart => exact ⟨0, _, Nat.zero_le _, rfl, h0.out, fun j hj => by omega, (Below.refl _ _).alloc (Nat.le_refl _) _, by simp, by rw [World.size_alloc]; exact Free.nil _ _⟩
  case round =>
    obtain ⟨k, V, hk, rfl, hrow, hkids, hbel, hsz, hfr⟩ := hrel
    have HFr : Hid (Free (w.heap.size + 1) wr.heap.size wr) := hfr
    clear hfr
    have HB : Hid (Below w.heap.size w wr) := hbel
    have HRow : Hid (wr.rowIs w.heap.size 27 n (partV (.slice none 0 0) V k)) := hrow
    have HKids : Hid (∀ j, j < k → SlB (w.heap.size + 1) wr.heap.size wr (V j) (xs.getD j [])) := hkids
    by_cases hlt : k < n
    · have hR := HR0.out.below hbel hhi
      rcases hR.cells with hz | ⟨b, off, e1, _, hbhi, hc⟩
      · omega
      · subst e1
        obtain ⟨v, c0, ea, en, ec, rfl, hr0⟩ := hc k hlt
        have hr : Hid (Rd lo hi wr ea en ec (xs.getD k [])) := hr0
        have hki : (k : Int) < (n : Int) := by omega
        have HLn : Hid (∀ i, i < n → en ≤ 1048576) := by intro i hi; have := HLn0.out k hlt; rw [hr0.len] at this; exact this
        clear hR hc hr0 hrow hkids hbel
        go_wp2_with fail
        refine (toByteS_one ea en ec (xs.getD k []) wr hr.out (Nat.le_trans hhi HB.out.size) (HLn.out k hlt)).mono ?_
        rintro e w' ⟨rfl, hrow', hb', hs'⟩
        have HNew : Hid (SlB wr.heap.size w'.heap.size w' (.slice (some ⟨wr.heap.size, 0, none⟩) en en) (xs.getD k [])) := ⟨_, _, _, rfl, hrow'.rd hr.out.len hr.out.byte (by have := HLn.out k hlt; omega) (Nat.le_refl _) hrow'.lt⟩
        have hfr2 : Free (w.heap.size + 1) w'.heap.size w' := HFr.out.next hb' (free_row hrow' hs')
        have hrow2 : w'.rowIs w.heap.size 27 n (partV (.slice none 0 0) V k) := rowIs_block HRow.out (hb'.block _ (rowIs_lt HRow.out))
        have hfz := hrow2.frozen k
        have hold : w'.cell? ⟨w.heap.size, k, none⟩ = some (.slice none 0 0) := by have := hrow2.cell hlt; simpa [partV] using this
        obtain ⟨U, hU⟩ : ∃ U, U = w'.setCell ⟨w.heap.size, k, none⟩ (.slice (some ⟨wr.heap.size, 0, none⟩) en en) := ⟨_, rfl⟩
        have HU : Hid (U = w'.setCell ⟨w.heap.size, k, none⟩ (.slice (some ⟨wr.heap.size, 0, none⟩) en en)) := hU
        have hsU : U.heap.size = w'.heap.size := by rw [hU]; simp
        have hsm : Same (w.heap.size + 1) w'.heap.size w' U := by rw [hU]; exact fun b h1 _ => Below.heap_setCell w' ⟨w.heap.size, k, none⟩ _ b (by show b ≠ w.heap.size; omega)
        have HR2 : Hid (U.rowIs w.heap.size 27 n (partV (.slice none 0 0) (fun i => if i = k then .slice (some ⟨wr.heap.size, 0, none⟩) en en else V i) (k + 1))) := by unfold Hid; rw [hU]; exact partV_step _ hrow2
        have HFr2 : Hid (Free (w.heap.size + 1) U.heap.size U) := by unfold Hid; rw [hsU, hU]; exact hfr2.set _ _
        clear hfr2
        have HB2 : Hid (Below w.heap.size w U) := by unfold Hid; rw [hU]; exact (HB.out.trans (hb'.mono HB.out.size)).setCell (Nat.le_refl _) _
        have HK2 : Hid (∀ j, j < k + 1 → SlB (w.heap.size + 1) U.heap.size U (if j = k then .slice (some ⟨wr.heap.size, 0, none⟩) en en else V j) (xs.getD j [])) := by
          intro j hj
          rw [hsU]
          by_cases e : j = k
          · subst e
            rw [if_pos rfl]
            exact (HNew.out.mono (by omega) (Nat.le_refl _)).same hsm
          · rw [if_neg e]
            exact (((HKids.out j (by omega)).same (Same.of_below hb' (Nat.le_refl _))).mono (Nat.le_refl _) hb'.size).same hsm
        have hsz2 : w.heap.size + 1 ≤ U.heap.size := by have := hb'.size; omega
        clear hrow' hb' hrow2 hsm hU
        go_wp2_with fail
        rw [← HU.out]
        go_roundw
        case rel => exact ⟨k + 1, _, by omega, by go_num, HR2.out, HK2.out, HB2.out, hsz2, HFr2.out⟩
        case measure => simp [intOf]; omega
    · have hkn : k = n := by omega
      have HRd : Hid (RSS w.heap.size wr.heap.size wr (some ⟨w.heap.size, 0, none⟩) n n xs) := by
        refine ⟨HL.out, ⟨Nat.le_refl _, by omega⟩, .inr ⟨w.heap.size, 0, rfl, Nat.le_refl _, by omega, fun i hi => ⟨V i, ?_, (HKids.out i (by omega)).mono (by omega) (Nat.le_refl _)⟩⟩⟩
        have := HRow.out.cell hi
        rw [Nat.zero_add, this]
        simp [partV, hkn, hi]
      have HFz : Hid (Free w.heap.size wr.heap.size wr) := fun b h1 h2 o => by
        by_cases e : b = w.heap.size
        · subst e; exact HRow.out.frozen o
        · exact HFr.out b (by omega) h2 o
      clear hrow hkids hbel hkn
      go_wp2_with fail
      go_ret
      exact ⟨rfl, HRd.out, HB.out, HFz.out⟩
end

section
open Go.RowKit

theorem wrapI {z : Int} (h0 : 0 ≤ z) (h1 : z ≤ 2147483648) : IntKind.i64.wrap z = z := by
  simp [IntKind.wrap, IntKind.bits, IntKind.signed] <;> omega

theorem leafI_succ (b off n : Nat) : leafI b off (n + 1) = leafI b off n ++ [(⟨b, off + n, none⟩, .i64)] := by simp [leafI, List.range_succ]
theorem leafI_length (b off n : Nat) : (leafI b off n).length = n := by simp [leafI]

theorem held_leafI {w : World} {b off : Nat} {k : Int} : ∀ {n : Nat}, Held w (leafI b off n) k → ∀ j, j < n → w.cell? ⟨b, off + j, none⟩ = some (.int .i64 (IntKind.i64.wrap (k + j))) := by
  intro n
  induction n with
  | zero => intro _ j hj; omega
  | succ n ih =>
    intro h j hj
    rw [leafI_succ, held_append, leafI_length] at h
    by_cases e : j = n
    · subst e; exact h.2.1
    · exact ih h.1 j (by omega)
end

section
open Go.RowKit
set_option linter.unusedVariables false

/-- Only numbers and flags were turned, and only in the blocks from lo on, below hi. -/
structure MarkW (lo hi : Nat) (w w' : World) : Prop where
  os : w'.os = w.os
  tape : w'.tape = w.tape
  output : w'.output = w.output
  size : w.heap.size ≤ w'.heap.size
  out : ∀ b, b < w.heap.size → (b < lo ∨ hi ≤ b) → w'.heap[b]? = w.heap[b]?
  cell : ∀ (p : Addr) (v : Value), w.cell? p = some v → w'.cell? p = some v ∨ (∃ kd m m', v = .int kd m ∧ w'.cell? p = some (.int kd m')) ∨ ∃ b b', v = .bool b ∧ w'.cell? p = some (.bool b')
  frz : ∀ p : Addr, p.block < w.heap.size → w'.frozen? p = w.frozen? p

theorem MarkW.refl (lo hi : Nat) (w : World) : MarkW lo hi w w := ⟨rfl, rfl, rfl, Nat.le_refl _, fun _ _ _ => rfl, fun _ _ h => .inl h, fun _ _ => rfl⟩

theorem MarkRel.toW {lo hi : Nat} {w w' : World} (h : MarkRel lo hi w w') : MarkW lo hi w w' :=
  ⟨h.os, h.tape, h.output, h.size, h.out, fun p v hp => (h.cell p v hp).imp id Or.inl, h.frz⟩

theorem MarkW.trans {lo hi : Nat} {a b c : World} (h : MarkW lo hi a b) (k : MarkW lo hi b c) : MarkW lo hi a c := by
  refine ⟨k.os.trans h.os, k.tape.trans h.tape, k.output.trans h.output, Nat.le_trans h.size k.size, fun x h1 h2 => (k.out x (Nat.lt_of_lt_of_le h1 h.size) h2).trans (h.out x h1 h2), fun p v hp => ?_, fun p hp => (k.frz p (Nat.lt_of_lt_of_le hp h.size)).trans (h.frz p hp)⟩
  rcases h.cell p v hp with h1 | ⟨kd, m, m', e, h1⟩ | ⟨x, x', e, h1⟩
  · exact k.cell p v h1
  · rcases k.cell p _ h1 with h2 | ⟨kd2, m2, m2', e2, h2⟩ | ⟨y, y', e2, h2⟩
    · exact .inr (.inl ⟨kd, m, m', e, h2⟩)
    · simp only [Value.int.injEq] at e2
      obtain ⟨rfl, _⟩ := e2
      exact .inr (.inl ⟨kd, m, m2', e, h2⟩)
    · cases e2
  · rcases k.cell p _ h1 with h2 | ⟨kd2, m2, m2', e2, h2⟩ | ⟨y, y', e2, h2⟩
    · exact .inr (.inr ⟨x, x', e, h2⟩)
    · cases e2
    · exact .inr (.inr ⟨x, y', e, h2⟩)

theorem MarkW.setB {lo hi : Nat} {w : World} {a : Addr} {m : Bool} (h : w.cell? a = some (.bool m)) (h1 : lo ≤ a.block) (h2 : a.block < hi) (m' : Bool) : MarkW lo hi w (w.setCell a (.bool m')) := by
  have hb := (Below.refl a.block w).setCell (p := a) (Nat.le_refl _) (.bool m')
  refine ⟨hb.os, hb.tape, hb.output, hb.size, fun b _ hb' => Below.heap_setCell w a _ b (by omega), fun p v hp => ?_, fun p _ => by simp⟩
  by_cases e : a = p
  · subst e
    rw [h] at hp
    cases hp
    exact .inr (.inr ⟨m, m', rfl, World.cell?_setCell_same _ _ _ h⟩)
  · exact .inl (by rw [World.cell?_setCell_other _ _ _ _ e]; exact hp)

theorem MarkW.slice {lo hi : Nat} {w w' : World} (h : MarkW lo hi w w') {p : Addr} {a : Option Addr} {n c : Nat} (hp : w.cell? p = some (.slice a n c)) : w'.cell? p = some (.slice a n c) := by
  rcases h.cell p _ hp with h1 | ⟨_, _, _, e, _⟩ | ⟨_, _, e, _⟩
  · exact h1
  · cases e
  · cases e

theorem MarkW.int {lo hi : Nat} {w w' : World} (h : MarkW lo hi w w') {p : Addr} {kd : IntKind} {m : Int} (hp : w.cell? p = some (.int kd m)) : ∃ m', w'.cell? p = some (.int kd m') := by
  rcases h.cell p _ hp with h1 | ⟨kd', m1, m', e, h1⟩ | ⟨_, _, e, _⟩
  · exact ⟨m, h1⟩
  · simp only [Value.int.injEq] at e
    obtain ⟨rfl, _⟩ := e
    exact ⟨m', h1⟩
  · cases e

theorem MarkW.flag {lo hi : Nat} {w w' : World} (h : MarkW lo hi w w') {p : Addr} {m : Bool} (hp : w.cell? p = some (.bool m)) : ∃ m', w'.cell? p = some (.bool m') := by
  rcases h.cell p _ hp with h1 | ⟨kd', m1, m', e, h1⟩ | ⟨_, b', e, h1⟩
  · exact ⟨m, h1⟩
  · cases e
  · exact ⟨b', h1⟩

theorem Free.markW {lo hi lo' hi' : Nat} {w w' : World} (h : Free lo hi w) (hm : MarkW lo' hi' w w') (hh : hi ≤ w.heap.size) : Free lo hi w' := fun b h1 h2 o => (hm.frz ⟨b, o, none⟩ (Nat.lt_of_lt_of_le h2 hh)).trans (h b h1 h2 o)

/-- A list of flags, whatever they are. -/
structure ShF (lo hi : Nat) (w : World) (a : Option Addr) (n cap : Nat) : Prop where
  fits : n ≤ cap ∧ cap ≤ 9223372036854775807
  cells : n = 0 ∨ ∃ b off, a = some ⟨b, off, none⟩ ∧ lo ≤ b ∧ b < hi ∧ ∀ i, i < n → ∃ z, w.cell? ⟨b, off + i, none⟩ = some (.bool z)

theorem RB.sh {lo hi : Nat} {w : World} {a : Option Addr} {n cap : Nat} {xs : List Bool} (h : RB lo hi w a n cap xs) : ShF lo hi w a n cap := by
  obtain ⟨_, hm, hc⟩ := h
  refine ⟨hm, hc.imp id ?_⟩
  rintro ⟨b, off, e, h1, h2, hc⟩
  exact ⟨b, off, e, h1, h2, fun i hi => by obtain ⟨v, hv, rfl⟩ := hc i hi; exact ⟨_, hv⟩⟩

theorem ShF.mark {lo hi lo' hi' : Nat} {w w' : World} (hm : MarkW lo' hi' w w') {a : Option Addr} {n cap : Nat} (h : ShF lo hi w a n cap) : ShF lo hi w' a n cap := by
  obtain ⟨hf, hc⟩ := h
  refine ⟨hf, hc.imp id ?_⟩
  rintro ⟨b, off, e, h1, h2, hc⟩
  exact ⟨b, off, e, h1, h2, fun i hi => by obtain ⟨z, hz⟩ := hc i hi; exact hm.flag hz⟩

theorem ShB.markW {lo hi lo' hi' : Nat} {w w' : World} (hm : MarkW lo' hi' w w') {a : Option Addr} {n cap : Nat} (h : ShB lo hi w a n cap) : ShB lo hi w' a n cap := by
  obtain ⟨hf, hc⟩ := h
  refine ⟨hf, hc.imp id ?_⟩
  rintro ⟨b, off, e, h1, h2, hc⟩
  exact ⟨b, off, e, h1, h2, fun i hi => by obtain ⟨z, hz⟩ := hc i hi; exact hm.int hz⟩

/-- A list of numbers, whatever they are. -/
structure ShI (lo hi : Nat) (w : World) (a : Option Addr) (n cap : Nat) : Prop where
  fits : n ≤ cap ∧ cap ≤ 9223372036854775807
  cells : n = 0 ∨ ∃ b off, a = some ⟨b, off, none⟩ ∧ lo ≤ b ∧ b < hi ∧ ∀ i, i < n → ∃ z, w.cell? ⟨b, off + i, none⟩ = some (.int .i64 z)

theorem RI.sh {lo hi : Nat} {w : World} {a : Option Addr} {n cap : Nat} {xs : List Int} (h : RI lo hi w a n cap xs) : ShI lo hi w a n cap := by
  obtain ⟨_, hm, hc⟩ := h
  refine ⟨hm, hc.imp id ?_⟩
  rintro ⟨b, off, e, h1, h2, hc⟩
  exact ⟨b, off, e, h1, h2, fun i hi => by obtain ⟨v, hv, rfl⟩ := hc i hi; exact ⟨_, hv⟩⟩

theorem ShI.mark {lo hi lo' hi' : Nat} {w w' : World} (hm : MarkW lo' hi' w w') {a : Option Addr} {n cap : Nat} (h : ShI lo hi w a n cap) : ShI lo hi w' a n cap := by
  obtain ⟨hf, hc⟩ := h
  refine ⟨hf, hc.imp id ?_⟩
  rintro ⟨b, off, e, h1, h2, hc⟩
  exact ⟨b, off, e, h1, h2, fun i hi => by obtain ⟨z, hz⟩ := hc i hi; exact hm.int hz⟩

theorem MarkW.setI {lo hi : Nat} {w : World} {a : Addr} {kd : IntKind} {m : Int} (h : w.cell? a = some (.int kd m)) (h1 : lo ≤ a.block) (h2 : a.block < hi) (m' : Int) : MarkW lo hi w (w.setCell a (.int kd m')) := (MarkRel.set h h1 h2 m').toW

set_option maxRecDepth 100000 in
set_option maxHeartbeats 1000000 in
theorem markBW_any (a : Option Addr) (n cap : Nat) (k : Int) (w : World) {lo hi : Nat} (h : ShB lo hi w a n cap) (hF : Free lo hi w) (hhi : hi ≤ w.heap.size) (hn : n ≤ 1048576) (hk : 0 ≤ k ∧ k ≤ 1152921504606846976) :
    Calls Tryd.prog 11 #[.slice a n cap, .int .i64 k] w fun e w' => e = .returned (.int .i64 (k + n)) ∧ MarkW lo hi w w' := by
  obtain ⟨hk0, hk1⟩ := hk
  rcases h.cells with h0 | ⟨b, off, rfl, h1, h2, hc⟩
  · subst h0
    clear h hF
    go_enter Tryd.func11, Tryd.ntmps11
    go_wp2
    refine wp_loop_rounds 1 ?_
    rw [rounds_succ]
    go_wp2
    go_ret
    exact ⟨ri (by simp), MarkW.refl _ _ _⟩
  · have HC : Hid (∀ i, i < n → ∃ z, w.cell? ⟨b, off + i, none⟩ = some (.int .u8 z)) := hc
    have HF : Hid (Free lo hi w) := hF
    clear hc hF h
    go_enter Tryd.func11, Tryd.ntmps11
    go_wp2
    go_loopw [1, 5] (fun q i wr => ∃ j : Nat, j ≤ n ∧ i = .int .i64 j ∧ q = .int .i64 (k + j) ∧ MarkW lo hi w wr) (fun _ i _ => n - (intOf i).toNat)
    case atStart => exact ⟨0, Nat.zero_le _, rfl, by simp, MarkW.refl _ _ _⟩
    case round =>
      obtain ⟨j, hj, rfl, rfl, hm⟩ := hrel
      have HM : Hid (MarkW lo hi w wr) := hm
      by_cases hlt : j < n
      · obtain ⟨z, hz⟩ := HC.out j hlt
        obtain ⟨y, hy⟩ := hm.int hz
        have hf : wr.frozen? ⟨b, off + j, none⟩ = false := HF.out.markW hm hhi b h1 h2 _
        have HN : Hid (∀ m', MarkW lo hi w (wr.setCell ⟨b, off + j, none⟩ (.int .u8 m'))) := fun m' => hm.trans (MarkW.setI hy h1 h2 m')
        clear hm hz
        go_wp2
        go_roundw
        case rel => exact ⟨j + 1, by omega, by go_num, by go_num, HN.out _⟩
        case measure => simp [intOf]; omega
      · have HE : Hid (k + (j : Int) = k + n) := by unfold Hid; omega
        clear hm
        go_wp2
        go_ret
        exact ⟨ri HE.out, HM.out⟩

/-- A list of such lists. -/
structure markBBSh (lo hi : Nat) (w : World) (a : Option Addr) (n cap : Nat) : Prop where
  fits : n ≤ cap ∧ cap ≤ 9223372036854775807
  cells : n = 0 ∨ ∃ b off, a = some ⟨b, off, none⟩ ∧ lo ≤ b ∧ b < hi ∧ ∀ i, i < n → ∃ a' n' c', w.cell? ⟨b, off + i, none⟩ = some (.slice a' n' c') ∧ n' ≤ 1048576 ∧ ShB lo hi w a' n' c'

theorem RSS.sh {lo hi : Nat} {w : World} {a : Option Addr} {n cap : Nat} {xs : List (List Int)} (h : RSS lo hi w a n cap xs) (hb : ∀ i, i < n → (xs.getD i []).length ≤ 1048576) : markBBSh lo hi w a n cap := by
  obtain ⟨_, hm, hc⟩ := h
  refine ⟨hm, hc.imp id ?_⟩
  rintro ⟨b, off, e, h1, h2, hc⟩
  refine ⟨b, off, e, h1, h2, fun i hi => ?_⟩
  obtain ⟨v, hv, a', n', c', rfl, hr⟩ := hc i hi
  exact ⟨a', n', c', hv, by have := hb i hi; rw [hr.len] at this; exact this, hr.sh⟩

theorem markBBSh.mark {lo hi lo' hi' : Nat} {w w' : World} (hm : MarkW lo' hi' w w') {a : Option Addr} {n cap : Nat} (h : markBBSh lo hi w a n cap) : markBBSh lo hi w' a n cap := by
  obtain ⟨hf, hc⟩ := h
  refine ⟨hf, hc.imp id ?_⟩
  rintro ⟨b, off, e, h1, h2, hc⟩
  refine ⟨b, off, e, h1, h2, fun i hi => ?_⟩
  obtain ⟨a', n', c', hv, hn, hr⟩ := hc i hi
  exact ⟨a', n', c', hm.slice hv, hn, ShB.markW hm hr⟩

set_option maxRecDepth 100000 in
set_option maxHeartbeats 1000000 in
theorem markBB_any (a : Option Addr) (n cap : Nat) (k : Int) (w : World) {lo hi : Nat} (h : markBBSh lo hi w a n cap) (hF : Free lo hi w) (hhi : hi ≤ w.heap.size) (hn : n ≤ 1048576) (hk : 0 ≤ k ∧ k ≤ 1125899906842624) :
    Calls Tryd.prog 35 #[.slice a n cap, .int .i64 k] w fun e w' => ∃ t : Nat, e = .returned (.int .i64 (k + t)) ∧ t ≤ 1099511627776 ∧ MarkW lo hi w w' := by
  obtain ⟨hk0, hk1⟩ := hk
  have hfit := h.fits
  have HR : Hid (markBBSh lo hi w a n cap) := h
  have HF : Hid (Free lo hi w) := hF
  clear h hF
  go_enter Tryd.func35, Tryd.ntmps35
  go_wp2
  go_loopw [1, 5] (fun q i wr => ∃ j t : Nat, j ≤ n ∧ t ≤ j * 1048576 ∧ i = .int .i64 j ∧ q = .int .i64 (k + t) ∧ MarkW lo hi w wr) (fun _ i _ => n - (intOf i).toNat)
  case atStart => exact ⟨0, 0, Nat.zero_le _, by omega, rfl, by simp, MarkW.refl _ _ _⟩
  case round =>
    obtain ⟨j, t, hj, ht, rfl, rfl, hm⟩ := hrel
    have HM : Hid (MarkW lo hi w wr) := hm
    by_cases hlt : j < n
    · have hji : (j : Int) < (n : Int) := by omega
      have hFr : Hid (Free lo hi wr) := HF.out.markW hm hhi
      have hsz := hm.size
      rcases (HR.out.mark hm).cells with h0 | ⟨b, off, rfl, h1, h2, hc⟩
      · omega
      · obtain ⟨a', n', c', hv, hn', hr⟩ := hc j hlt
        have HSh : Hid (ShB lo hi wr a' n' c') := hr
        clear hm hc hr
        go_wp2_with fail
        refine (markBW_any a' n' c' (k + t) wr HSh.out hFr.out (by omega) hn' (by omega)).mono ?_
        rintro e w1 ⟨rfl, hm1⟩
        have HM1 : Hid (MarkW lo hi w w1) := HM.out.trans hm1
        clear hm1 hv
        go_wp2_with fail
        go_roundw
        case rel => exact ⟨j + 1, t + n', by omega, by omega, by go_num, by go_num, HM1.out⟩
        case measure => simp [intOf]; omega
    · clear hm
      go_wp2_with fail
      go_ret
      exact ⟨t, rfl, by omega, HM.out⟩

/-- A list of such lists. -/
structure markFFSh (lo hi : Nat) (w : World) (a : Option Addr) (n cap : Nat) : Prop where
  fits : n ≤ cap ∧ cap ≤ 9223372036854775807
  cells : n = 0 ∨ ∃ b off, a = some ⟨b, off, none⟩ ∧ lo ≤ b ∧ b < hi ∧ ∀ i, i < n → ∃ a' n' c', w.cell? ⟨b, off + i, none⟩ = some (.slice a' n' c') ∧ n' ≤ 1048576 ∧ ShF lo hi w a' n' c'

theorem RFF.sh {lo hi : Nat} {w : World} {a : Option Addr} {n cap : Nat} {xs : List (List Bool)} (h : RFF lo hi w a n cap xs) (hb : ∀ i, i < n → (xs.getD i []).length ≤ 1048576) : markFFSh lo hi w a n cap := by
  obtain ⟨_, hm, hc⟩ := h
  refine ⟨hm, hc.imp id ?_⟩
  rintro ⟨b, off, e, h1, h2, hc⟩
  refine ⟨b, off, e, h1, h2, fun i hi => ?_⟩
  obtain ⟨v, hv, a', n', c', rfl, hr⟩ := hc i hi
  exact ⟨a', n', c', hv, by have := hb i hi; rw [hr.len] at this; exact this, hr.sh⟩

theorem markFFSh.mark {lo hi lo' hi' : Nat} {w w' : World} (hm : MarkW lo' hi' w w') {a : Option Addr} {n cap : Nat} (h : markFFSh lo hi w a n cap) : markFFSh lo hi w' a n cap := by
  obtain ⟨hf, hc⟩ := h
  refine ⟨hf, hc.imp id ?_⟩
  rintro ⟨b, off, e, h1, h2, hc⟩
  refine ⟨b, off, e, h1, h2, fun i hi => ?_⟩
  obtain ⟨a', n', c', hv, hn, hr⟩ := hc i hi
  exact ⟨a', n', c', hm.slice hv, hn, ShF.mark hm hr⟩
end

section
open Go.RowKit

theorem free_al {lo : Nat} {w : World} (h : Free lo w.heap.size w) (c : Array Value) (t : TypeId) : Free lo (w.alloc (.cells c t)).heap.size (w.alloc (.cells c t)) := by
  rw [World.size_alloc]; exact h.alloc c t

set_option maxHeartbeats 1600000 in
theorem toByteSSS_fr (a : Option Addr) (n cap : Nat) (xs : List (List (List Int))) (w : World) {lo hi : Nat} (h : RSSS lo hi w a n cap xs) (hhi : hi ≤ w.heap.size) (hbd : BdSSS n xs) :
    Calls Tryd.prog 17 #[.slice a n cap] w fun e w' => e = .returned (.slice (some ⟨w.heap.size, 0, none⟩) n n) ∧ RSSS w.heap.size w'.heap.size w' (some ⟨w.heap.size, 0, none⟩) n n xs ∧ Below w.heap.size w w' ∧ Free w.heap.size w'.heap.size w' := by
  obtain ⟨hn, hln⟩ := hbd
  have HR0 : Hid (RSSS lo hi w a n cap xs) := h
  obtain ⟨hl, ⟨hm, _⟩, _⟩ := h
  have hmk := fun w : World => run_make_row' (P := Tryd.prog) 22 42 (.slice none 0 0) 24 Tryd.underlying22 Tryd.infotoByteSSS rfl .i64 .i64 n (by omega) (by omega) w
  have HL : Hid (xs.length = n) := hl
  have h0 : Hid ((w.alloc (.cells (madeCells #[(.slice none 0 0)] n) 42)).rowIs w.heap.size 42 n (partV (.slice none 0 0) (fun _ => (.slice none 0 0)) 0)) := (World.rowIs_made w (.slice none 0 0) n 42).congr (fun i _ => by simp [partV])
  have HLn0 : Hid (∀ j, j < n → (xs.getD j []).length ≤ 1048576 ∧ ∀ i, i < (xs.getD j []).length → ((xs.getD j []).getD i []).length ≤ 1048576) := hln
  clear hl hln
  go_enter Tryd.func17, Tryd.ntmps17
  go_wp2_with fail
  go_loopw [4] (fun i wr => ∃ (k : Nat) (V : Nat → Value), k ≤ n ∧ i = .int .i64 k ∧ wr.rowIs w.heap.size 42 n (partV (.slice none 0 0) V k) ∧ (∀ j, j < k → SlSS (w.heap.size + 1) wr.heap.size wr (V j) (xs.getD j [])) ∧ Below w.heap.size w wr ∧ w.heap.size + 1 ≤ wr.heap.size ∧ Free (w.heap.size + 1) wr.heap.size wr) (fun i _ => n - (intOf i).toNat)
  case atStart => exact ⟨0, _, Nat.zero_le _, rfl, h0.out, fun j hj => by omega, (Below.refl _ _).alloc (Nat.le_refl _) _, by simp, by rw [World.size_alloc]; exact Free.nil _ _⟩
  case round =>
    obtain ⟨k, V, hk, rfl, hrow, hkids, hbel, hsz, hfr⟩ := hrel
    have HFr : Hid (Free (w.heap.size + 1) wr.heap.size wr) := hfr
    clear hfr
    have HB : Hid (Below w.heap.size w wr) := hbel
    have HRow : Hid (wr.rowIs w.heap.size 42 n (partV (.slice none 0 0) V k)) := hrow
    have HKids : Hid (∀ j, j < k → SlSS (w.heap.size + 1) wr.heap.size wr (V j) (xs.getD j [])) := hkids
    by_cases hlt : k < n
    · have hR := HR0.out.below hbel hhi
      rcases hR.cells with hz | ⟨b, off, e1, _, hbhi, hc⟩
      · omega
      · subst e1
        obtain ⟨v, c0, ea, en, ec, rfl, hr0⟩ := hc k hlt
        have hr : Hid (RSS lo hi wr ea en ec (xs.getD k [])) := hr0
        have hki : (k : Int) < (n : Int) := by omega
        have HLn : Hid (en ≤ 1048576 ∧ ∀ i, i < en → ((xs.getD k []).getD i []).length ≤ 1048576) := by have := HLn0.out k hlt; rw [hr0.len] at this; exact this
        clear hR hc hr0 hrow hkids hbel
        go_wp2_with fail
        refine (toByteSS_fr ea en ec (xs.getD k []) wr hr.out (Nat.le_trans hhi HB.out.size) HLn.out.1 HLn.out.2).mono ?_
        rintro e w' ⟨rfl, hrow', hb', hf'⟩
        have HNew : Hid (SlSS wr.heap.size w'.heap.size w' (.slice (some ⟨wr.heap.size, 0, none⟩) en en) (xs.getD k [])) := ⟨_, _, _, rfl, hrow'⟩
        have hfr2 : Free (w.heap.size + 1) w'.heap.size w' := HFr.out.next hb' (hf')
        have hrow2 : w'.rowIs w.heap.size 42 n (partV (.slice none 0 0) V k) := rowIs_block HRow.out (hb'.block _ (rowIs_lt HRow.out))
        have hfz := hrow2.frozen k
        have hold : w'.cell? ⟨w.heap.size, k, none⟩ = some (.slice none 0 0) := by have := hrow2.cell hlt; simpa [partV] using this
        obtain ⟨U, hU⟩ : ∃ U, U = w'.setCell ⟨w.heap.size, k, none⟩ (.slice (some ⟨wr.heap.size, 0, none⟩) en en) := ⟨_, rfl⟩
        have HU : Hid (U = w'.setCell ⟨w.heap.size, k, none⟩ (.slice (some ⟨wr.heap.size, 0, none⟩) en en)) := hU
        have hsU : U.heap.size = w'.heap.size := by rw [hU]; simp
        have hsm : Same (w.heap.size + 1) w'.heap.size w' U := by rw [hU]; exact fun b h1 _ => Below.heap_setCell w' ⟨w.heap.size, k, none⟩ _ b (by show b ≠ w.heap.size; omega)
        have HR2 : Hid (U.rowIs w.heap.size 42 n (partV (.slice none 0 0) (fun i => if i = k then .slice (some ⟨wr.heap.size, 0, none⟩) en en else V i) (k + 1))) := by unfold Hid; rw [hU]; exact partV_step _ hrow2
        have HFr2 : Hid (Free (w.heap.size + 1) U.heap.size U) := by unfold Hid; rw [hsU, hU]; exact hfr2.set _ _
        clear hfr2
        have HB2 : Hid (Below w.heap.size w U) := by unfold Hid; rw [hU]; exact (HB.out.trans (hb'.mono HB.out.size)).setCell (Nat.le_refl _) _
        have HK2 : Hid (∀ j, j < k + 1 → SlSS (w.heap.size + 1) U.heap.size U (if j = k then .slice (some ⟨wr.heap.size, 0, none⟩) en en else V j) (xs.getD j [])) := by
          intro j hj
          rw [hsU]
          by_cases e : j = k
          · subst e
            rw [if_pos rfl]
            exact (HNew.out.mono (by omega) (Nat.le_refl _)).same hsm
          · rw [if_neg e]
            exact (((HKids.out j (by omega)).same (Same.of_below hb' (Nat.le_refl _))).mono (Nat.le_refl _) hb'.size).same hsm
        have hsz2 : w.heap.size + 1 ≤ U.heap.size := by have := hb'.size; omega
        clear hrow' hb' hrow2 hsm hU
        go_wp2_with fail
        rw [← HU.out]
        go_roundw
        case rel => exact ⟨k + 1, _, by omega, by go_num, HR2.out, HK2.out, HB2.out, hsz2, HFr2.out⟩
        case measure => simp [intOf]; omega
    · have hkn : k = n := by omega
      have HRd : Hid (RSSS w.heap.size wr.heap.size wr (some ⟨w.heap.size, 0, none⟩) n n xs) := by
        refine ⟨HL.out, ⟨Nat.le_refl _, by omega⟩, .inr ⟨w.heap.size, 0, rfl, Nat.le_refl _, by omega, fun i hi => ⟨V i, ?_, (HKids.out i (by omega)).mono (by omega) (Nat.le_refl _)⟩⟩⟩
        have := HRow.out.cell hi
        rw [Nat.zero_add, this]
        simp [partV, hkn, hi]
      have HFz : Hid (Free w.heap.size wr.heap.size wr) := fun b h1 h2 o => by
        by_cases e : b = w.heap.size
        · subst e; exact HRow.out.frozen o
        · exact HFr.out b (by omega) h2 o
      clear hrow hkids hbel hkn
      go_wp2_with fail
      go_ret
      exact ⟨rfl, HRd.out, HB.out, HFz.out⟩

theorem toEdge_fr (p n : Int) (w : World) :
    Calls Tryd.prog 29 #[.agg #[.int .i64 p, .int .i64 n]] w fun e w' => e = .returned (.agg #[.int .i64 p, .int .i64 n]) ∧ Below w.heap.size w w' ∧ Free w.heap.size w'.heap.size w' := by
  have HB0 : Hid (Below w.heap.size w (((w.alloc (.cells #[.int .i64 p, .int .i64 n] 56)).alloc (.cells #[.int .i64 p, .int .i64 n] 44)).alloc (.cells #[.int .i64 p, .int .i64 n] 44))) :=
    (((Below.refl _ _).alloc (Nat.le_refl _) _).alloc (by simp) _).alloc (by simp; omega) _
  have HFr : Hid (Free w.heap.size (((w.alloc (.cells #[.int .i64 p, .int .i64 n] 56)).alloc (.cells #[.int .i64 p, .int .i64 n] 44)).alloc (.cells #[.int .i64 p, .int .i64 n] 44)).heap.size (((w.alloc (.cells #[.int .i64 p, .int .i64 n] 56)).alloc (.cells #[.int .i64 p, .int .i64 n] 44)).alloc (.cells #[.int .i64 p, .int .i64 n] 44))) := free_al (free_al (free_al (Free.nil _ _) _ _) _ _) _ _
  go_enter Tryd.func29, Tryd.ntmps29
  go_wp2
  refine bodyPost_ret (v := .agg #[.int .i64 p, .int .i64 n]) (by simp [results, Tryd.results29, go_sem]) rfl ⟨rfl, HB0.out, HFr.out⟩

set_option maxHeartbeats 800000 in
theorem toEdgeS_fr {a : Option Addr} {n cap : Nat} {xs : List (Int × Int)} {w : World} {lo hi : Nat} (h : RP lo hi w a n cap xs) (hhi : hi ≤ w.heap.size) (hn1 : n ≤ 1048576) :
    Calls Tryd.prog 18 #[.slice a n cap] w fun e w' => e = .returned (.slice (some ⟨w.heap.size, 0, none⟩) n n) ∧ w'.rowIs w.heap.size 44 (n * 2) (cellP xs n) ∧ Below w.heap.size w w' ∧ Free w.heap.size w'.heap.size w' := by
  have H : Hid (RP lo hi w a n cap xs) := h
  obtain ⟨hl, ⟨hm, hM⟩, hcs⟩ := h
  clear hcs
  have hmk : ∀ w : World, (Instr.makeSlice 29 (.int .i64 (n : Int)) (.int .i64 (n : Int))).run Tryd.prog w = .ok (.slice (some ⟨w.heap.size, 0, none⟩) n n) (w.alloc (.cells (madeCells #[.int .i64 0, .int .i64 0] (n * 2)) 44)) := by
    intro w
    obtain ⟨i0, hi0, hz0, hz1, hz2⟩ := info_parts Tryd.infoEdge
    have hr := run_make (P := Tryd.prog) w 29 44 i0 _ Tryd.underlying29 hi0 hz0 .i64 .i64 n n (by omega) (Int.le_refl _) (by rw [hz2]; omega) (by omega)
    simp only [Int.toNat_natCast, hz1] at hr
    exact hr
  have HL : Hid (xs.length = n) := hl
  have h0 : Hid ((w.alloc (.cells (madeCells #[.int .i64 0, .int .i64 0] (n * 2)) 44)).rowIs w.heap.size 44 (n * 2) (cellP xs 0)) := rowP_made w xs n
  clear hl
  go_enter Tryd.func18, Tryd.ntmps18
  go_wp2
  go_loopw [4] (fun i wr => ∃ k : Nat, k ≤ n ∧ i = .int .i64 k ∧ wr.rowIs w.heap.size 44 (n * 2) (cellP xs k) ∧ Below w.heap.size w wr ∧ Free w.heap.size wr.heap.size wr) (fun i _ => n - (intOf i).toNat)
  case atStart => exact ⟨0, Nat.zero_le _, rfl, h0.out, (Below.refl _ _).alloc (Nat.le_refl _) _, free_al (Free.nil _ _) _ _⟩
  case round =>
    obtain ⟨k, hk, rfl, hrow, hbel, hfr⟩ := hrel
    have HFr : Hid (Free w.heap.size wr.heap.size wr) := hfr
    clear hfr
    have HB : Hid (Below w.heap.size w wr) := hbel
    have HRow : Hid (wr.rowIs w.heap.size 44 (n * 2) (cellP xs k)) := hrow
    by_cases hlt : k < n
    · have hR := H.out.below hbel hhi
      rcases hR.cells with h0 | ⟨b, off, e1, _, hbh, hc⟩
      · omega
      · subst e1
        obtain ⟨c1, c2⟩ := hc k hlt
        obtain ⟨t, ht⟩ : ∃ t, t = xs.getD k (0, 0) := ⟨_, rfl⟩
        have HT : Hid (t = xs.getD k (0, 0)) := ht
        rw [← ht] at c1 c2
        obtain ⟨tp, tn⟩ := t
        have hki : (k : Int) < (n : Int) := by omega
        have hlw := hrow.lt
        clear hR hc ht hbel hrow
        go_wp2_with fail
        refine (toEdge_fr tp tn _).mono ?_
        rintro e w1 ⟨rfl, hb1, hf1⟩
        have HFr1 : Hid (Free w.heap.size ((w1.setCell ⟨w.heap.size, k * 2, none⟩ (.int .i64 tp)).setCell ⟨w.heap.size, k * 2 + 1, none⟩ (.int .i64 tn)).heap.size ((w1.setCell ⟨w.heap.size, k * 2, none⟩ (.int .i64 tp)).setCell ⟨w.heap.size, k * 2 + 1, none⟩ (.int .i64 tn))) := by
          unfold Hid
          have := ((HFr.out.next hb1 hf1).set ⟨w.heap.size, k * 2, none⟩ (.int .i64 tp)).set ⟨w.heap.size, k * 2 + 1, none⟩ (.int .i64 tn)
          simpa using this
        clear hf1
        have hrow1 : w1.rowIs w.heap.size 44 (n * 2) (cellP xs k) := HRow.out.of_block (hb1.block _ hlw)
        obtain ⟨o0, o1⟩ := cellP_old xs (Nat.le_refl k)
        have d0 : w1.cell? ⟨w.heap.size, k * 2, none⟩ = some (.int .i64 0) := by rw [hrow1.cell (show k * 2 < n * 2 by omega), o0]
        have d1 : w1.cell? ⟨w.heap.size, k * 2 + 1, none⟩ = some (.int .i64 0) := by rw [hrow1.cell (show k * 2 + 1 < n * 2 by omega), o1]
        have f0 := hrow1.frozen (k * 2)
        have f1 := hrow1.frozen (k * 2 + 1)
        have HRow1 : Hid (((w1.setCell ⟨w.heap.size, k * 2, none⟩ (.int .i64 tp)).setCell ⟨w.heap.size, k * 2 + 1, none⟩ (.int .i64 tn)).rowIs w.heap.size 44 (n * 2) (cellP xs (k + 1))) := rowP_step (by rw [← HT.out]) (by rw [← HT.out]) hrow1
        have HB1 : Hid (Below w.heap.size w ((w1.setCell ⟨w.heap.size, k * 2, none⟩ (.int .i64 tp)).setCell ⟨w.heap.size, k * 2 + 1, none⟩ (.int .i64 tn))) := ((HB.out.trans (hb1.mono HB.out.size)).setCell (Nat.le_refl _) _).setCell (Nat.le_refl _) _
        clear hrow1 hb1
        go_wp2
        go_roundw
        case rel => exact ⟨k + 1, by omega, by go_num, HRow1.out, HB1.out, HFr1.out⟩
        case measure => simp [intOf]; omega
    · have hkn : k = n := by omega
      have HE : Hid (wr.rowIs w.heap.size 44 (n * 2) (cellP xs n)) := by subst hkn; exact hrow
      clear hkn hrow hbel
      go_wp2
      go_ret
      exact ⟨rfl, HE.out, HB.out, HFr.out⟩

set_option maxRecDepth 100000 in
set_option maxHeartbeats 4000000 in
theorem toO_fr {ca : Option Addr} {cn cc : Nat} {ea : Option Addr} {en ec : Nat} {x : OD} {w : World} {lo hi : Nat} (h : RdO lo hi w ca cn cc ea en ec x) (hhi : hi ≤ w.heap.size) (hbd : BdO x cn en) (kx : Int) :
    Calls Tryd.prog 6 #[.agg #[.slice ca cn cc, .slice ea en ec, .int .i64 kx]] w fun e w' => ∃ g0 g1, e = .returned (.agg #[.slice (some ⟨g0, 0, none⟩) cn cn, .slice (some ⟨g1, 0, none⟩) en en, .int .i64 kx]) ∧ RdO w.heap.size w'.heap.size w' (some ⟨g0, 0, none⟩) cn cn (some ⟨g1, 0, none⟩) en en x ∧ Below w.heap.size w w' ∧ Free w.heap.size w'.heap.size w' := by
  obtain ⟨W1, hW1⟩ : ∃ W1, W1 = ((w.alloc (.cells #[.slice ca cn cc, .slice ea en ec, .int .i64 kx] 25)).alloc (.cells #[.slice none 0 0, .slice none 0 0, .int .i64 0] 31)).alloc (.cells #[.slice none 0 0, .slice none 0 0, .int .i64 0] 31) := ⟨_, rfl⟩
  have HW1 : Hid (W1 = ((w.alloc (.cells #[.slice ca cn cc, .slice ea en ec, .int .i64 kx] 25)).alloc (.cells #[.slice none 0 0, .slice none 0 0, .int .i64 0] 31)).alloc (.cells #[.slice none 0 0, .slice none 0 0, .int .i64 0] 31)) := hW1
  have hs1 : W1.heap.size = w.heap.size + 3 := by rw [hW1]; simp
  have hb0 : Below w.heap.size w W1 := by rw [hW1]; exact (((Below.refl _ _).alloc (Nat.le_refl _) _).alloc (by simp) _).alloc (by simp; omega) _
  have HB0 : Hid (Below w.heap.size w W1) := hb0
  have hlx : BoxO 25 W1 w.heap.size (.slice ca cn cc) (.slice ea en ec) kx := by rw [hW1]; exact ((BoxO.new _ w _ _ _).below ((Below.refl _ _).alloc (Nat.le_refl _) _) (by simp)).below ((Below.refl _ _).alloc (Nat.le_refl _) _) (by simp; omega)
  have hrx : BoxO 31 W1 (w.heap.size + 1) (.slice none 0 0) (.slice none 0 0) 0 := by
    rw [hW1]
    have := BoxO.new 31 (w.alloc (.cells #[.slice ca cn cc, .slice ea en ec, .int .i64 kx] 25)) (.slice none 0 0) (.slice none 0 0) 0
    rw [World.size_alloc] at this
    exact this.below ((Below.refl _ _).alloc (Nat.le_refl _) _) (by simp)
  have hox : BoxO 31 W1 (w.heap.size + 1 + 1) (.slice none 0 0) (.slice none 0 0) 0 := by
    rw [hW1]
    have := BoxO.new 31 ((w.alloc (.cells #[.slice ca cn cc, .slice ea en ec, .int .i64 kx] 25)).alloc (.cells #[.slice none 0 0, .slice none 0 0, .int .i64 0] 31)) (.slice none 0 0) (.slice none 0 0) 0
    rwa [World.size_alloc, World.size_alloc] at this
  have HLx : Hid (∀ W, Below (w.heap.size + 2) W1 W → BoxO 25 W w.heap.size (.slice ca cn cc) (.slice ea en ec) kx) := fun W hW => hlx.below hW (by omega)
  have HRx : Hid (∀ W, Below (w.heap.size + 2) W1 W → BoxO 31 W (w.heap.size + 1) (.slice none 0 0) (.slice none 0 0) 0) := fun W hW => hrx.below hW (by omega)
  have HOx0 : Hid (BoxO 31 W1 (w.heap.size + 1 + 1) (.slice none 0 0) (.slice none 0 0) 0) := hox
  have HS1 : Hid (W1.heap.size = w.heap.size + 3) := hs1
  have HRd : Hid (∀ W, Below (w.heap.size + 2) W1 W → RdO lo hi W ca cn cc ea en ec x ∧ hi ≤ W.heap.size) := fun W hW => ⟨(h.below hb0 hhi).below hW (by omega), Nat.le_trans (Nat.le_trans hhi hb0.size) hW.size⟩
  have HBd : Hid (BdO x cn en) := hbd
  have HU0 : Hid (Below (w.heap.size + 2) W1 W1) := Below.refl _ _
  obtain ⟨z0, z1, z2⟩ := hlx.cells
  have hne0 : w.heap.size ≠ w.heap.size + 1 + 1 := by omega
  clear h hb0 hW1 hlx hrx hox hbd hs1
  go_enter Tryd.func6, Tryd.ntmps6
  go_upto_region 2 with fail
  rw [← HW1.out]
  go_wp2_with fail
  refine (toByteSSS_fr ca cn cc x.cls W1 (HRd.out _ HU0.out).1.cls (HRd.out _ HU0.out).2 HBd.out.c).mono ?_
  rintro e v1 ⟨rfl, hrd0, hb0, hfn0⟩
  obtain ⟨g0, hg0⟩ : ∃ g, g = W1.heap.size := ⟨_, rfl⟩
  rw [← hg0] at hrd0 ⊢
  have hsb0 := hb0.size
  have hu0 := HU0.out.size
  have hox0 := HOx0.out.below hb0 HOx0.out.lt
  obtain ⟨o0, o1, o2⟩ := hox0.cells
  have gf := hox0.frz 0
  obtain ⟨U1, hE⟩ : ∃ U, U = v1.setCell ⟨w.heap.size + 1 + 1, 0, none⟩ (.slice (some ⟨g0, 0, none⟩) cn cn) := ⟨_, rfl⟩
  have HE1 : Hid (U1 = v1.setCell ⟨w.heap.size + 1 + 1, 0, none⟩ (.slice (some ⟨g0, 0, none⟩) cn cn)) := hE
  have HOx1 : Hid (BoxO 31 U1 (w.heap.size + 1 + 1) (.slice (some ⟨g0, 0, none⟩) cn cn) (.slice none 0 0) 0) := by unfold Hid; rw [hE]; exact hox0.at 0 _
  have hsU : U1.heap.size = v1.heap.size := by rw [hE]; simp
  have HV0 : Hid (Below (w.heap.size + 2) W1 v1) := HU0.out.trans (hb0.mono (by have := HS1.out; omega))
  have HU1 : Hid (Below (w.heap.size + 2) W1 U1) := by unfold Hid; rw [hE]; exact HV0.out.setCell (by show w.heap.size + 2 ≤ w.heap.size + 1 + 1; omega) _
  have hsm : Same W1.heap.size v1.heap.size v1 U1 := by
    rw [hE]
    have hp := HS1.out
    exact fun b h1 _ => Below.heap_setCell v1 ⟨w.heap.size + 1 + 1, 0, none⟩ _ b (by show b ≠ w.heap.size + 1 + 1; omega)
  have HG0 : Hid (RSSS W1.heap.size U1.heap.size U1 (some ⟨g0, 0, none⟩) cn cn x.cls) := by
    have hp := HS1.out
    rw [Hid, hsU]
    exact (hrd0.mono (by omega) (Nat.le_refl _)).same hsm
  have HFr0 : Hid (Free W1.heap.size U1.heap.size U1) := by unfold Hid; rw [hsU, hE]; exact Free.set (Free.next (w := W1) (Free.nil _ _) hb0 hfn0) _ _
  clear hrd0 hb0 hox0 hE hsm hg0 z0 z1 z2 hfn0
  obtain ⟨z0, z1, z2⟩ := (HLx.out _ HV0.out).cells
  have hk0 := hsU
  clear hsU
  go_wp2_with fail
  rw [← HE1.out]
  refine (toEdgeS_fr (HRd.out _ HU1.out).1.edg (HRd.out _ HU1.out).2 HBd.out.e).mono ?_
  rintro e v2 ⟨rfl, hrow, hb1, hfn1⟩
  have hrd1 := rowP_rd (lo := U1.heap.size) (hi := v2.heap.size) hrow (HRd.out _ HU1.out).1.edg.len HBd.out.e (Nat.le_refl _) hrow.lt
  obtain ⟨g1, hg1⟩ : ∃ g, g = U1.heap.size := ⟨_, rfl⟩
  rw [← hg1] at hrd1 ⊢
  have hsb1 := hb1.size
  have hu1 := HU1.out.size
  clear o0 o1 o2 gf
  have hox1 := HOx1.out.below hb1 HOx1.out.lt
  obtain ⟨o0, o1, o2⟩ := hox1.cells
  have gf := hox1.frz 1
  have gf2 := hox1.frz 2
  obtain ⟨U2, hE⟩ : ∃ U, U = (v2.setCell ⟨w.heap.size + 1 + 1, 1, none⟩ (.slice (some ⟨g1, 0, none⟩) en en)).setCell ⟨w.heap.size + 1 + 1, 2, none⟩ (.int .i64 kx) := ⟨_, rfl⟩
  have HE2 : Hid (U2 = (v2.setCell ⟨w.heap.size + 1 + 1, 1, none⟩ (.slice (some ⟨g1, 0, none⟩) en en)).setCell ⟨w.heap.size + 1 + 1, 2, none⟩ (.int .i64 kx)) := hE
  have HOx2 : Hid (BoxO 31 U2 (w.heap.size + 1 + 1) (.slice (some ⟨g0, 0, none⟩) cn cn) (.slice (some ⟨g1, 0, none⟩) en en) kx) := by
    unfold Hid; rw [hE]
    have e1 : BoxO 31 (v2.setCell ⟨w.heap.size + 1 + 1, 1, none⟩ (.slice (some ⟨g1, 0, none⟩) en en)) (w.heap.size + 1 + 1) (.slice (some ⟨g0, 0, none⟩) cn cn) (.slice (some ⟨g1, 0, none⟩) en en) 0 := hox1.at 1 _
    exact e1.at 2 _
  have hsU : U2.heap.size = v2.heap.size := by rw [hE]; simp
  have HV1 : Hid (Below (w.heap.size + 2) W1 v2) := HU1.out.trans (hb1.mono (by have := HS1.out; omega))
  have HU2 : Hid (Below (w.heap.size + 2) W1 U2) := by unfold Hid; rw [hE]; exact (HV1.out.setCell (by show w.heap.size + 2 ≤ w.heap.size + 1 + 1; omega) _).setCell (by show w.heap.size + 2 ≤ w.heap.size + 1 + 1; omega) _
  have hsm : Same W1.heap.size v2.heap.size v2 U2 := by
    rw [hE]
    have hp := HS1.out
    exact fun b h1 _ => (Below.heap_setCell _ ⟨w.heap.size + 1 + 1, 2, none⟩ _ b (by show b ≠ w.heap.size + 1 + 1; omega)).trans (Below.heap_setCell v2 ⟨w.heap.size + 1 + 1, 1, none⟩ _ b (by show b ≠ w.heap.size + 1 + 1; omega))
  have HG1 : Hid (RSSS W1.heap.size U2.heap.size U2 (some ⟨g0, 0, none⟩) cn cn x.cls ∧ RP W1.heap.size U2.heap.size U2 (some ⟨g1, 0, none⟩) en en x.edg) := by
    have hp := HS1.out
    rw [Hid, hsU]
    exact ⟨((HG0.out.same (Same.of_below hb1 (Nat.le_refl _))).mono (Nat.le_refl _) hb1.size).same hsm, (hrd1.mono (by omega) (Nat.le_refl _)).same hsm⟩
  have HFr1 : Hid (Free W1.heap.size U2.heap.size U2) := by unfold Hid; rw [hsU, hE]; exact Free.set (Free.set (Free.next (w := U1) HFr0.out hb1 hfn1) _ _) _ _
  clear hrd1 hrow hb1 hox1 hE hsm hg1 z0 z1 z2 hfn1
  obtain ⟨z0, z1, z2⟩ := (HLx.out _ HV1.out).cells
  go_upto_region 5 with fail
  rw [← HE2.out]
  clear z0 z1 z2 o0 o1 o2 gf gf2
  obtain ⟨o0, o1, o2⟩ := HOx2.out.cells
  have hrx2 := HRx.out _ HU2.out
  obtain ⟨t0, t1, t2⟩ := hrx2.cells
  have tf0 := hrx2.frz 0
  have tf1 := hrx2.frz 1
  have tf2 := hrx2.frz 2
  obtain ⟨s0, s1, s2⟩ := (hrx2.setO (.slice (some ⟨g0, 0, none⟩) cn cn) (.slice (some ⟨g1, 0, none⟩) en en) kx).cells
  have HPost : Hid (RdO w.heap.size (setO U2 (w.heap.size + 1) (.slice (some ⟨g0, 0, none⟩) cn cn) (.slice (some ⟨g1, 0, none⟩) en en) (.int .i64 kx)).heap.size (setO U2 (w.heap.size + 1) (.slice (some ⟨g0, 0, none⟩) cn cn) (.slice (some ⟨g1, 0, none⟩) en en) (.int .i64 kx)) (some ⟨g0, 0, none⟩) cn cn (some ⟨g1, 0, none⟩) en en x ∧ Below w.heap.size w (setO U2 (w.heap.size + 1) (.slice (some ⟨g0, 0, none⟩) cn cn) (.slice (some ⟨g1, 0, none⟩) en en) (.int .i64 kx))) := by
    have hp := HS1.out
    have hsf := size_setO U2 (w.heap.size + 1) (.slice (some ⟨g0, 0, none⟩) cn cn) (.slice (some ⟨g1, 0, none⟩) en en) (.int .i64 kx)
    have hSm : Same W1.heap.size U2.heap.size U2 (setO U2 (w.heap.size + 1) (.slice (some ⟨g0, 0, none⟩) cn cn) (.slice (some ⟨g1, 0, none⟩) en en) (.int .i64 kx)) := fun b h1 h2 => heap_setO _ _ _ _ (by omega)
    have hG := HG1.out
    rw [Hid, hsf]
    exact ⟨⟨(hG.1.same hSm).mono (by omega) (Nat.le_refl _), (hG.2.same hSm).mono (by omega) (Nat.le_refl _)⟩, below_setO (HB0.out.trans (HU2.out.mono (by omega))) (by omega) _ _ _⟩
  have HPf : Hid (Free w.heap.size (setO U2 (w.heap.size + 1) (.slice (some ⟨g0, 0, none⟩) cn cn) (.slice (some ⟨g1, 0, none⟩) en en) (.int .i64 kx)).heap.size (setO U2 (w.heap.size + 1) (.slice (some ⟨g0, 0, none⟩) cn cn) (.slice (some ⟨g1, 0, none⟩) en en) (.int .i64 kx))) := by
    have hp := HS1.out
    have hf0 : Free w.heap.size U2.heap.size U2 := fun b h1 h2 o => by
      by_cases e0 : b = w.heap.size
      · subst e0; exact (HLx.out _ HU2.out).frz o
      · by_cases e1 : b = w.heap.size + 1
        · subst e1; exact hrx2.frz o
        · by_cases e2 : b = w.heap.size + 1 + 1
          · subst e2; exact HOx2.out.frz o
          · exact HFr1.out b (by omega) h2 o
    rw [Hid, size_setO]
    unfold setO
    exact ((hf0.set _ _).set _ _).set _ _
  simp only [setO] at s0 s1 s2 HPost HPf
  clear hrx2
  go_wp2_with fail
  refine bodyPost_ret (v := .agg #[.slice (some ⟨g0, 0, none⟩) cn cn, .slice (some ⟨g1, 0, none⟩) en en, .int .i64 kx]) (by simp [results, Tryd.results6, go_sem, s0, s1, s2]) rfl ?_
  exact ⟨_, _, rfl, HPost.out.1, HPost.out.2, HPf.out⟩
end

section
open Go.RowKit
set_option linter.unusedVariables false

set_option maxRecDepth 100000 in
set_option maxHeartbeats 1000000 in
theorem markBX_any (a : Option Addr) (n cap : Nat) (k : Int) (w : World) {lo hi : Nat} (h : ShB lo hi w a n cap) (hF : Free lo hi w) (hhi : hi ≤ w.heap.size) (hn : n ≤ 1048576) (hk : 0 ≤ k ∧ k ≤ 2305843009213693952) :
    Calls Tryd.prog 11 #[.slice a n cap, .int .i64 k] w fun e w' => e = .returned (.int .i64 (k + n)) ∧ MarkW lo hi w w' := by
  obtain ⟨hk0, hk1⟩ := hk
  rcases h.cells with h0 | ⟨b, off, rfl, h1, h2, hc⟩
  · subst h0
    clear h hF
    go_enter Tryd.func11, Tryd.ntmps11
    go_wp2
    refine wp_loop_rounds 1 ?_
    rw [rounds_succ]
    go_wp2
    go_ret
    exact ⟨ri (by simp), MarkW.refl _ _ _⟩
  · have HC : Hid (∀ i, i < n → ∃ z, w.cell? ⟨b, off + i, none⟩ = some (.int .u8 z)) := hc
    have HF : Hid (Free lo hi w) := hF
    clear hc hF h
    go_enter Tryd.func11, Tryd.ntmps11
    go_wp2
    go_loopw [1, 5] (fun q i wr => ∃ j : Nat, j ≤ n ∧ i = .int .i64 j ∧ q = .int .i64 (k + j) ∧ MarkW lo hi w wr) (fun _ i _ => n - (intOf i).toNat)
    case atStart => exact ⟨0, Nat.zero_le _, rfl, by simp, MarkW.refl _ _ _⟩
    case round =>
      obtain ⟨j, hj, rfl, rfl, hm⟩ := hrel
      have HM : Hid (MarkW lo hi w wr) := hm
      by_cases hlt : j < n
      · obtain ⟨z, hz⟩ := HC.out j hlt
        obtain ⟨y, hy⟩ := hm.int hz
        have hf : wr.frozen? ⟨b, off + j, none⟩ = false := HF.out.markW hm hhi b h1 h2 _
        have HN : Hid (∀ m', MarkW lo hi w (wr.setCell ⟨b, off + j, none⟩ (.int .u8 m'))) := fun m' => hm.trans (MarkW.setI hy h1 h2 m')
        clear hm hz
        go_wp2
        go_roundw
        case rel => exact ⟨j + 1, by omega, by go_num, by go_num, HN.out _⟩
        case measure => simp [intOf]; omega
      · have HE : Hid (k + (j : Int) = k + n) := by unfold Hid; omega
        clear hm
        go_wp2
        go_ret
        exact ⟨ri HE.out, HM.out⟩

set_option maxRecDepth 100000 in
set_option maxHeartbeats 1000000 in
theorem markBBX_any (a : Option Addr) (n cap : Nat) (k : Int) (w : World) {lo hi : Nat} (h : markBBSh lo hi w a n cap) (hF : Free lo hi w) (hhi : hi ≤ w.heap.size) (hn : n ≤ 1048576) (hk : 0 ≤ k ∧ k ≤ 2000000000000000000) :
    Calls Tryd.prog 35 #[.slice a n cap, .int .i64 k] w fun e w' => ∃ t : Nat, e = .returned (.int .i64 (k + t)) ∧ t ≤ 1099511627776 ∧ MarkW lo hi w w' := by
  obtain ⟨hk0, hk1⟩ := hk
  have hfit := h.fits
  have HR : Hid (markBBSh lo hi w a n cap) := h
  have HF : Hid (Free lo hi w) := hF
  clear h hF
  go_enter Tryd.func35, Tryd.ntmps35
  go_wp2
  go_loopw [1, 5] (fun q i wr => ∃ j t : Nat, j ≤ n ∧ t ≤ j * 1048576 ∧ i = .int .i64 j ∧ q = .int .i64 (k + t) ∧ MarkW lo hi w wr) (fun _ i _ => n - (intOf i).toNat)
  case atStart => exact ⟨0, 0, Nat.zero_le _, by omega, rfl, by simp, MarkW.refl _ _ _⟩
  case round =>
    obtain ⟨j, t, hj, ht, rfl, rfl, hm⟩ := hrel
    have HM : Hid (MarkW lo hi w wr) := hm
    by_cases hlt : j < n
    · have hji : (j : Int) < (n : Int) := by omega
      have hFr : Hid (Free lo hi wr) := HF.out.markW hm hhi
      have hsz := hm.size
      rcases (HR.out.mark hm).cells with h0 | ⟨b, off, rfl, h1, h2, hc⟩
      · omega
      · obtain ⟨a', n', c', hv, hn', hr⟩ := hc j hlt
        have HSh : Hid (ShB lo hi wr a' n' c') := hr
        clear hm hc hr
        go_wp2_with fail
        refine (markBX_any a' n' c' (k + t) wr HSh.out hFr.out (by omega) hn' (by omega)).mono ?_
        rintro e w1 ⟨rfl, hm1⟩
        have HM1 : Hid (MarkW lo hi w w1) := HM.out.trans hm1
        clear hm1 hv
        go_wp2_with fail
        go_roundw
        case rel => exact ⟨j + 1, t + n', by omega, by omega, by go_num, by go_num, HM1.out⟩
        case measure => simp [intOf]; omega
    · clear hm
      go_wp2_with fail
      go_ret
      exact ⟨t, rfl, by omega, HM.out⟩

structure ShSSS (lo hi : Nat) (w : World) (a : Option Addr) (n cap : Nat) : Prop where
  fits : n ≤ cap ∧ cap ≤ 9223372036854775807
  cells : n = 0 ∨ ∃ b off, a = some ⟨b, off, none⟩ ∧ lo ≤ b ∧ b < hi ∧ ∀ i, i < n → ∃ a' n' c', w.cell? ⟨b, off + i, none⟩ = some (.slice a' n' c') ∧ n' ≤ 1048576 ∧ markBBSh lo hi w a' n' c'

theorem RSSS.sh {lo hi : Nat} {w : World} {a : Option Addr} {n cap : Nat} {xs : List (List (List Int))} (h : RSSS lo hi w a n cap xs) (hb : BdSSS n xs) : ShSSS lo hi w a n cap := by
  refine ⟨h.fits, ?_⟩
  rcases h.cells with h0 | ⟨b, off, e, h1, h2, hc⟩
  · exact .inl h0
  · refine .inr ⟨b, off, e, h1, h2, fun i hi => ?_⟩
    obtain ⟨v, c0, a', n', c', rfl, hr⟩ := hc i hi
    have hl := hr.len
    exact ⟨a', n', c', c0, by have := (hb.2 i hi).1; omega, hr.sh (fun q hq => (hb.2 i hi).2 q (by omega))⟩

theorem ShSSS.mark {lo hi lo' hi' : Nat} {w w' : World} (hm : MarkW lo' hi' w w') {a : Option Addr} {n cap : Nat} (h : ShSSS lo hi w a n cap) : ShSSS lo hi w' a n cap := by
  refine ⟨h.fits, ?_⟩
  rcases h.cells with h0 | ⟨b, off, e, h1, h2, hc⟩
  · exact .inl h0
  · refine .inr ⟨b, off, e, h1, h2, fun i hi => ?_⟩
    obtain ⟨a', n', c', c0, hn, hr⟩ := hc i hi
    exact ⟨a', n', c', hm.slice c0, hn, hr.mark hm⟩

set_option maxHeartbeats 1600000 in
theorem markSSS_any (a : Option Addr) (n cap : Nat) (w : World) {lo hi : Nat} (h : ShSSS lo hi w a n cap) (hF : Free lo hi w) (hhi : hi ≤ w.heap.size) (hn : n ≤ 1048576) :
    Calls Tryd.prog 23 #[.slice a n cap, .int .i64 1] w fun e w' => ∃ t : Nat, e = .returned (.int .i64 (1 + t)) ∧ t ≤ 1152921504606846976 ∧ MarkW lo hi w w' := by
  have hfit := h.fits
  have HR : Hid (ShSSS lo hi w a n cap) := h
  have HF : Hid (Free lo hi w) := hF
  clear h hF
  go_enter Tryd.func23, Tryd.ntmps23
  go_wp2
  go_loopw [1, 5] (fun q i wr => ∃ j t : Nat, j ≤ n ∧ t ≤ j * 1099511627776 ∧ i = .int .i64 j ∧ q = .int .i64 (1 + t) ∧ MarkW lo hi w wr) (fun _ i _ => n - (intOf i).toNat)
  case atStart => exact ⟨0, 0, Nat.zero_le _, by omega, rfl, by simp, MarkW.refl _ _ _⟩
  case round =>
    obtain ⟨j, t, hj, ht, rfl, rfl, hm⟩ := hrel
    have HM : Hid (MarkW lo hi w wr) := hm
    have htn : t ≤ 1152921504606846976 := by have : j * 1099511627776 ≤ 1048576 * 1099511627776 := Nat.mul_le_mul_right _ (by omega); omega
    by_cases hlt : j < n
    · have hji : (j : Int) < (n : Int) := by omega
      have hFr : Hid (Free lo hi wr) := HF.out.markW hm hhi
      have hsz := hm.size
      rcases (HR.out.mark hm).cells with h0 | ⟨b, off, rfl, h1, h2, hc⟩
      · omega
      · obtain ⟨a', n', c', hv, hn', hr⟩ := hc j hlt
        have HSh : Hid (markBBSh lo hi wr a' n' c') := hr
        clear hm hc hr
        go_wp2_with fail
        refine (markBBX_any a' n' c' (1 + t) wr HSh.out hFr.out (by omega) hn' (by omega)).mono ?_
        rintro e w1 ⟨t1, rfl, ht1, hm1⟩
        have HM1 : Hid (MarkW lo hi w w1) := HM.out.trans hm1
        have HTt : Hid (t + t1 ≤ (j + 1) * 1099511627776) := by unfold Hid; omega
        clear hm1 hv
        go_wp2_with fail
        go_roundw
        case rel => exact ⟨j + 1, t + t1, by omega, HTt.out, by go_num, by go_num, HM1.out⟩
        case measure => simp [intOf]; omega
    · clear hm
      go_wp2_with fail
      go_ret
      exact ⟨t, rfl, htn, HM.out⟩

structure ShE (lo hi : Nat) (w : World) (a : Option Addr) (n cap : Nat) : Prop where
  fits : n ≤ cap ∧ cap ≤ 9223372036854775807
  cells : n = 0 ∨ ∃ b off, a = some ⟨b, off, none⟩ ∧ lo ≤ b ∧ b < hi ∧ ∀ i, i < n → (∃ z, w.cell? ⟨b, off + i * 2, none⟩ = some (.int .i64 z)) ∧ ∃ z, w.cell? ⟨b, off + i * 2 + 1, none⟩ = some (.int .i64 z)

theorem RP.she {lo hi : Nat} {w : World} {a : Option Addr} {n cap : Nat} {xs : List (Int × Int)} (h : RP lo hi w a n cap xs) : ShE lo hi w a n cap := by
  refine ⟨h.fits, ?_⟩
  rcases h.cells with h0 | ⟨b, off, e, h1, h2, hc⟩
  · exact .inl h0
  · exact .inr ⟨b, off, e, h1, h2, fun i hi => ⟨⟨_, (hc i hi).1⟩, ⟨_, (hc i hi).2⟩⟩⟩
theorem ShE.mark {lo hi lo' hi' : Nat} {w w' : World} (hm : MarkW lo' hi' w w') {a : Option Addr} {n cap : Nat} (h : ShE lo hi w a n cap) : ShE lo hi w' a n cap := by
  refine ⟨h.fits, ?_⟩
  rcases h.cells with h0 | ⟨b, off, e, h1, h2, hc⟩
  · exact .inl h0
  · refine .inr ⟨b, off, e, h1, h2, fun i hi => ?_⟩
    obtain ⟨⟨z, q1⟩, ⟨z', q2⟩⟩ := hc i hi
    exact ⟨hm.int q1, hm.int q2⟩

set_option maxHeartbeats 1600000 in
theorem markES_any (a : Option Addr) (n cap : Nat) (k : Int) (w : World) {lo hi : Nat} (h : ShE lo hi w a n cap) (hF : Free lo hi w) (hhi : hi ≤ w.heap.size) (hn : n ≤ 1048576) (hk : 0 ≤ k ∧ k ≤ 2000000000000000000) :
    Calls Tryd.prog 24 #[.slice a n cap, .int .i64 k] w fun e w' => e = .returned (.int .i64 (k + ((2 * n : Nat) : Int))) ∧ MarkW lo hi w w' := by
  obtain ⟨hk0, hk1⟩ := hk
  have hfit := h.fits
  have HR : Hid (ShE lo hi w a n cap) := h
  have HF : Hid (Free lo hi w) := hF
  clear h hF
  go_enter Tryd.func24, Tryd.ntmps24
  go_wp2
  go_loopw [1, 5] (fun q i wr => ∃ j : Nat, j ≤ n ∧ i = .int .i64 j ∧ q = .int .i64 (k + ((2 * j : Nat) : Int)) ∧ MarkW lo hi w wr) (fun _ i _ => n - (intOf i).toNat)
  case atStart => exact ⟨0, Nat.zero_le _, rfl, by simp, MarkW.refl _ _ _⟩
  case round =>
    obtain ⟨j, hj, rfl, rfl, hm⟩ := hrel
    have HM : Hid (MarkW lo hi w wr) := hm
    by_cases hlt : j < n
    · have hji : (j : Int) < (n : Int) := by omega
      have hFr := HF.out.markW hm hhi
      rcases (HR.out.mark hm).cells with h0 | ⟨b, off, rfl, h1, h2, hc⟩
      · omega
      · obtain ⟨⟨y, c0⟩, ⟨y', c1⟩⟩ := hc j hlt
        have f0 := hFr b h1 h2 (off + j * 2)
        have f1 := hFr b h1 h2 (off + j * 2 + 1)
        obtain ⟨z, hz⟩ : ∃ z, z = k + ((2 * j : Nat) : Int) := ⟨_, rfl⟩
        have hm1 := MarkW.setI (lo := lo) (hi := hi) c0 h1 h2 z
        have c1' : (wr.setCell ⟨b, off + j * 2, none⟩ (.int .i64 z)).cell? ⟨b, off + j * 2 + 1, none⟩ = some (.int .i64 y') := (World.cell?_setCell_other wr ⟨b, off + j * 2, none⟩ ⟨b, off + j * 2 + 1, none⟩ (.int .i64 z) (fun e => by simp at e)).trans c1
        have hm2 := MarkW.setI (lo := lo) (hi := hi) c1' h1 h2 (z + 1)
        have HM2 : Hid (MarkW lo hi w ((wr.setCell ⟨b, off + j * 2, none⟩ (.int .i64 z)).setCell ⟨b, off + j * 2 + 1, none⟩ (.int .i64 (z + 1)))) := HM.out.trans (hm1.trans hm2)
        have hw1 : IntKind.i64.wrap (z + 1) = z + 1 := wrap64_id (by omega)
        have hw2 : IntKind.i64.wrap (z + 1 + 1) = z + 1 + 1 := wrap64_id (by omega)
        have HZ : Hid (z + 1 + 1 = k + ((2 * (j + 1) : Nat) : Int)) := by unfold Hid; omega
        rw [← hz]
        clear hm hc hFr hm1 hm2 c1' hz
        go_wp2_with fail
        go_roundw
        case rel => exact ⟨j + 1, by omega, by go_num, by rw [← HZ.out], HM2.out⟩
        case measure => simp [intOf]; omega
    · have hjn : j = n := by omega
      have HE : Hid (j = n) := hjn
      clear hm hjn
      go_wp2_with fail
      go_ret
      exact ⟨ri (by rw [HE.out]), HM.out⟩

set_option maxRecDepth 100000 in
set_option maxHeartbeats 1600000 in
theorem markO_any {ca : Option Addr} {cn cc : Nat} {ea : Option Addr} {en ec : Nat} {x : OD} {kx : Int} {w : World} {lo hi : Nat} (h : RdO lo hi w ca cn cc ea en ec x) (hF : Free lo hi w) (hhi : hi ≤ w.heap.size) (hbd : BdO x cn en) :
    Calls Tryd.prog 10 #[.agg #[.slice ca cn cc, .slice ea en ec, .int .i64 kx], .int .i64 1] w fun e w' => ∃ q : Int, e = .returned (.int .i64 q) ∧ 0 ≤ q ∧ MarkW lo hi w w' := by
  obtain ⟨W, hW⟩ : ∃ W, W = w.alloc (.cells #[.slice ca cn cc, .slice ea en ec, .int .i64 kx] 31) := ⟨_, rfl⟩
  have HW : Hid (W = w.alloc (.cells #[.slice ca cn cc, .slice ea en ec, .int .i64 kx] 31)) := hW
  have hb0 : Below w.heap.size w W := by rw [hW]; exact (Below.refl _ _).alloc (Nat.le_refl _) _
  have HM0 : Hid (MarkW lo hi w W) := (MarkRel.of_below hb0).toW
  have hs0 : hi < W.heap.size := by rw [hW]; simp; omega
  have hbx : BoxO 31 W w.heap.size (.slice ca cn cc) (.slice ea en ec) kx := by rw [hW]; exact BoxO.new _ w _ _ _
  have HBx : Hid (∀ V, MarkW lo hi W V → BoxO 31 V w.heap.size (.slice ca cn cc) (.slice ea en ec) kx) := fun V hV => (hV.out w.heap.size hbx.lt (.inr hhi)).trans hbx
  have HS : Hid (ShSSS lo hi W ca cn cc) := (h.cls.below hb0 hhi).sh hbd.c
  have HE : Hid (ShE lo hi W ea en ec) := (h.edg.below hb0 hhi).she
  have HFr : Hid (Free lo hi W) := hF.same (Same.of_below hb0 hhi)
  have hcn := hbd.c.1
  have hen := hbd.e
  obtain ⟨z0, z1, z2⟩ := hbx.cells
  clear h hF hb0 hbx hbd hW
  go_enter Tryd.func10, Tryd.ntmps10
  go_upto_region 1 with fail
  rw [← HW.out]
  go_wp2_with fail
  refine (markSSS_any ca cn cc W HS.out HFr.out (by omega) hcn).mono ?_
  rintro e w1 ⟨t, rfl, ht, hm1⟩
  have HM1 : Hid (MarkW lo hi W w1) := hm1
  have s1 := hm1.size
  clear z0 z1 z2 hm1
  obtain ⟨z0, z1, z2⟩ := (HBx.out _ HM1.out).cells
  go_wp2_with fail
  refine (markES_any ea en ec (1 + t) w1 (HE.out.mark HM1.out) (HFr.out.markW HM1.out (by omega)) (by omega) hen (by omega)).mono ?_
  rintro e w2 ⟨rfl, hm2⟩
  have HM2 : Hid (MarkW lo hi w w2) := HM0.out.trans (HM1.out.trans hm2)
  clear hm2
  go_wp2_with fail
  go_ret
  exact ⟨_, rfl, by omega, HM2.out⟩
end

section
open Go.RowKit

set_option maxHeartbeats 400000 in
theorem markLong_any (a : Option Addr) (n cap : Nat) (k : Int) (w : World) (b off : Nat) (ha : n = 0 ∨ a = some ⟨b, off, none⟩) (hL : LeafOk w (leafB b off n)) (hn : n ≤ 67108864) (hk : 0 ≤ k ∧ k ≤ 1073741824) :
    Calls Tryd.prog 11 #[.slice a n cap, .int .i64 k] w fun e w' => e = .returned (.int .i64 (k + n)) ∧ w' = marks w (leafB b off n) k := by
  obtain ⟨hk0, hk1⟩ := hk
  rcases ha with h0 | rfl
  · subst h0
    clear hL
    go_enter Tryd.func11, Tryd.ntmps11
    go_wp2
    refine wp_loop_rounds 1 ?_
    rw [rounds_succ]
    go_wp2
    go_ret
    exact ⟨ri (by simp), rfl⟩
  · have HL : Hid (LeafOk w (leafB b off n)) := hL
    clear hL
    go_enter Tryd.func11, Tryd.ntmps11
    go_wp2
    go_loopw [1, 5] (fun q i wr => ∃ j : Nat, j ≤ n ∧ i = .int .i64 j ∧ q = .int .i64 (k + j) ∧ wr = marks w (leafB b off j) k) (fun _ i _ => n - (intOf i).toNat)
    case atStart => exact ⟨0, Nat.zero_le _, rfl, by simp, rfl⟩
    case round =>
      obtain ⟨j, hj, rfl, rfl, hwr⟩ := hrel
      by_cases hlt : j < n
      · have hsub : ∀ x ∈ leafB b off j, x ∈ leafB b off n := by
          intro x hx; simp only [leafB, List.mem_map, List.mem_range] at hx ⊢; obtain ⟨i, hi, e⟩ := hx; exact ⟨i, by omega, e⟩
        have hLj : LeafOk w (leafB b off j) := fun x hx => HL.out x (hsub x hx)
        have hmem : ((⟨b, off + j, none⟩ : Addr), IntKind.u8) ∈ leafB b off n := by simp only [leafB, List.mem_map, List.mem_range]; exact ⟨j, hlt, rfl⟩
        have hOk := (hLj.marks HL.out k).1 _ hmem
        rw [← hwr] at hOk
        obtain ⟨⟨m, hm⟩, hf⟩ := hOk
        have HW : Hid (wr.setCell ⟨b, off + j, none⟩ (.int .u8 (IntKind.u8.wrap (k + j))) = marks w (leafB b off (j + 1)) k) := by
          unfold Hid; rw [leafB_succ, marks_append, ← hwr, leafB_length]; rfl
        clear hsub hLj hmem hwr
        go_wp2
        go_roundw
        case rel => exact ⟨j + 1, by omega, by go_num, by go_num, HW.out⟩
        case measure => simp [intOf]; omega
      · have hjn : j = n := by omega
        have HW : Hid (wr = marks w (leafB b off n) k) := by rw [← hjn]; exact hwr
        have HE : Hid (k + (j : Int) = k + n) := by unfold Hid; omega
        clear hwr hjn
        go_wp2
        go_ret
        exact ⟨ri HE.out, HW.out⟩

set_option maxHeartbeats 400000 in
theorem heldLong_any (a : Option Addr) (n cap : Nat) (k : Int) (w : World) (b off : Nat) (ha : n = 0 ∨ a = some ⟨b, off, none⟩) (hc : ∀ j, j < n → w.cell? ⟨b, off + j, none⟩ = some (.int .u8 (IntKind.u8.wrap (k + j)))) (hn : n ≤ 67108864) (hk : 0 ≤ k ∧ k ≤ 1073741824) :
    Calls Tryd.prog 12 #[.slice a n cap, .int .i64 k] w fun e w' => e = .returned (.int .i64 (k + n)) ∧ w' = w := by
  obtain ⟨hk0, hk1⟩ := hk
  rcases ha with h0 | rfl
  · subst h0
    clear hc
    go_enter Tryd.func12, Tryd.ntmps12
    go_wp2
    refine wp_loop_rounds 1 ?_
    rw [rounds_succ]
    go_wp2
    go_ret
    exact ⟨ri (by simp), rfl⟩
  · have HC : Hid (∀ j, j < n → w.cell? ⟨b, off + j, none⟩ = some (.int .u8 (IntKind.u8.wrap (k + j)))) := hc
    clear hc
    go_enter Tryd.func12, Tryd.ntmps12
    go_wp2
    go_loop [1, 5] (fun q i => ∃ j : Nat, j ≤ n ∧ i = .int .i64 j ∧ q = .int .i64 (k + j)) (fun _ i => n - (intOf i).toNat)
    case atStart => exact ⟨0, Nat.zero_le _, rfl, by simp⟩
    case round =>
      obtain ⟨j, hj, rfl, rfl⟩ := hrel
      by_cases hlt : j < n
      · have hm := HC.out j hlt
        go_wp2
        go_round
        case rel => exact ⟨j + 1, by omega, by go_num, by go_num⟩
        case measure => simp [intOf]; omega
      · have HE : Hid (k + (j : Int) = k + n) := by unfold Hid; omega
        go_wp2
        go_ret
        exact ⟨ri HE.out, rfl⟩

theorem bytI_of {zs : List Int} (h : ∀ x ∈ zs, 0 ≤ x ∧ x ≤ 255) : ∀ i, 0 ≤ zs.getD i 0 ∧ zs.getD i 0 ≤ 255 := by
  intro i
  by_cases hi : i < zs.length
  · rw [getD_at hi]; exact h _ (List.getElem_mem hi)
  · rw [List.getD_eq_getElem?_getD, List.getElem?_eq_none (by omega)]; simp
theorem byt_mem {z : List Int} (h : Byt z) : ∀ x ∈ z, 0 ≤ x ∧ x ≤ 255 := by
  intro x hx
  obtain ⟨i, hi, e⟩ := List.mem_iff_getElem.1 hx
  have := h i
  rw [getD_at hi, e] at this
  exact this
theorem wordsT_byt {c : List (List Int)} (h : ∀ z ∈ c, ∀ x ∈ z, 0 ≤ x ∧ x ≤ 255) : ∀ x ∈ wordsT c, 0 ≤ x ∧ x ≤ 255 := by
  induction c with
  | nil => intro x hx; simp [wordsT] at hx
  | cons z c ih =>
    intro x hx
    simp only [wordsT, List.cons_append, List.mem_cons, List.mem_append] at hx
    rcases hx with rfl | hx | hx
    · decide
    · exact h z (by simp) x hx
    · exact ih (fun y hy => h y (by simp [hy])) x hx
theorem clsLines_byt {xs : List (List (List Int))} (h : ∀ c ∈ xs, ∀ z ∈ c, ∀ x ∈ z, 0 ≤ x ∧ x ≤ 255) : ∀ k, k ≤ xs.length → k ≤ 100 → ∀ x ∈ clsLines xs k, 0 ≤ x ∧ x ≤ 255
  | 0, _, _ => by intro x hx; simp [clsLines] at hx
  | k + 1, hk, hk' => by
    intro x hx
    simp only [clsLines, clsLine, List.mem_append] at hx
    rcases hx with hx | ((hx | hx) | hx) | hx
    · exact clsLines_byt h k (by omega) (by omega) x hx
    · revert x; decide
    · exact digT_byt (by omega) x hx
    · exact wordsT_byt (h _ (by rw [getD_at (by omega)]; exact List.getElem_mem _)) x hx
    · simp at hx; subst hx; decide
theorem edgLine_byt {e : Int × Int} (h1 : e.1.toNat < 100) (h2 : e.2.toNat < 100) : ∀ x ∈ edgLine e, 0 ≤ x ∧ x ≤ 255 := by
  intro x hx
  simp only [edgLine, List.mem_append] at hx
  rcases hx with (((hx | hx) | hx) | hx) | hx
  · revert x; decide
  · exact digT_byt h1 x hx
  · simp at hx; subst hx; decide
  · exact digT_byt h2 x hx
  · simp at hx; subst hx; decide
theorem edgLines_byt {xs : List (Int × Int)} : ∀ k, (∀ i, i < k → (xs.getD i (0, 0)).1.toNat < 100 ∧ (xs.getD i (0, 0)).2.toNat < 100) → ∀ x ∈ edgLines xs k, 0 ≤ x ∧ x ≤ 255
  | 0, _ => by intro x hx; simp [edgLines] at hx
  | k + 1, h => by
    intro x hx
    simp only [edgLines, List.mem_append] at hx
    rcases hx with hx | hx
    · exact edgLines_byt k (fun i hi => h i (by omega)) x hx
    · exact edgLine_byt (h k (by omega)).1 (h k (by omega)).2 x hx

theorem ordT_byt {x : OD} {cn en : Nat} {lo hi : Nat} {w : World} {ca : Option Addr} {cc : Nat} {ea : Option Addr} {ec : Nat} (h : RdO lo hi w ca cn cc ea en ec x) (hbd : BdO x cn en) : (∀ i, 0 ≤ (ordT x).getD i 0 ∧ (ordT x).getD i 0 ≤ 255) ∧ (ordT x).length ≤ 58720500 := by
  cases hok : orderB x with
  | false => rw [ordT_no hok]; exact ⟨fun i => by simp, by simp⟩
  | true =>
    have hc := h.cls.len
    have he := h.edg.len
    have hf := fit_of hok hc he hbd
    rw [ordT_yes hok hc he]
    have h7 := hf.c7
    have h50 := hf.e50
    refine ⟨bytI_of (fun y hy => ?_), ?_⟩
    · rcases List.mem_append.1 hy with hy | hy
      · refine clsLines_byt (fun c hc' z hz => ?_) cn (by omega) (by omega) y hy
        obtain ⟨k, hk, e⟩ := List.mem_iff_getElem.1 hc'
        obtain ⟨j, hj, e'⟩ := List.mem_iff_getElem.1 hz
        have hkn : k < cn := by omega
        obtain ⟨b, off, rfl⟩ := h.cls.block (by omega)
        obtain ⟨da, dn, dc, _, hr⟩ := h.cls.class hkn
        rw [getD_at hk, e] at hr
        have hl := hr.len
        have := hr.byts (j := j) (by omega)
        rw [getD_at hj, e'] at this
        exact byt_mem this
      · exact edgLines_byt en (fun i hi => by have := hf.ed i hi; omega) y hy
    · rw [List.length_append]
      have h1 := clsLines_len hf cn (Nat.le_refl _)
      have h2 := edgLines_len x.edg en
      have h3 : cn * 7340050 ≤ 7 * 7340050 := Nat.mul_le_mul_right _ h7
      have h4 : en * 11 ≤ 50 * 11 := Nat.mul_le_mul_right _ h50
      omega
end

end Go.Proofs.YtpedjcabapldgaaDoor
