/- What a slice of tokens reads as; the laws' comparison of two, their marking of one and their look at the marks: a contract each. -/
import Derived.Test.YtbjkokndnfmcpagBytes
import Derived.Deep.RegionWith
namespace Go.Proofs.Ytbjkokndnfmcpag
open Go.RowKit

/-- A token: its kind, its place, the bytes of its text. -/
structure Tok where
  kind : Int
  place : Int
  text : List Int

def Tok.zero : Tok := ⟨0, 0, []⟩

theorem eqToken_same (k p : Int) (a a' : Option Addr) (n cap n' cap' : Nat) (xs : List Int) (w : World) {lo hi lo' hi' : Nat} (h : Rd lo hi w a n cap xs) (h' : Rd lo' hi' w a' n' cap' xs) (hh : hi ≤ w.heap.size) (hh' : hi' ≤ w.heap.size) :
    Calls Try.prog 39 #[.agg #[.int .i64 k, .int .i64 p, .slice a n cap], .agg #[.int .i64 k, .int .i64 p, .slice a' n' cap']] w fun e w' => e = .returned (.bool true) ∧ Below w.heap.size w w' := by
  have hk : (k != k) = false := by simp
  have hp : (p != p) = false := by simp
  go_enter Try.func39, Try.ntmps39
  go_wp2_with fail
  have hb : Below w.heap.size w ((w.alloc (Obj.cells #[Value.int IntKind.i64 k, Value.int IntKind.i64 p, Value.slice a n cap] 55)).alloc (Obj.cells #[Value.int IntKind.i64 k, Value.int IntKind.i64 p, Value.slice a' n' cap'] 55)) := ((Below.refl _ _).alloc (Nat.le_refl _) _).alloc (by simp) _
  refine (eqByteS_any a a' n cap n' cap' xs xs _ (h.below hb hh) (h'.below hb hh')).mono ?_
  rintro e w' ⟨rfl, nd, rfl⟩
  have hd : decide (xs = xs) = true := by simp
  rw [hd]
  go_wp2
  go_ret
  exact ⟨rfl, below_drewN hb nd⟩

/-- A slice's value reads as these tokens. -/
structure RdT (lo hi : Nat) (w : World) (a : Option Addr) (n cap : Nat) (ts : List Tok) : Prop where
  len : ts.length = n
  fits : n ≤ cap ∧ cap ≤ 9223372036854775807
  cells : n = 0 ∨ ∃ b off, a = some ⟨b, off, none⟩ ∧ lo ≤ b ∧ b < hi ∧ ∀ i, i < n → ∃ ta tn tc,
    w.cell? ⟨b, off + i * 3, none⟩ = some (.int .i64 (ts.getD i Tok.zero).kind) ∧ w.cell? ⟨b, off + i * 3 + 1, none⟩ = some (.int .i64 (ts.getD i Tok.zero).place) ∧
    w.cell? ⟨b, off + i * 3 + 2, none⟩ = some (.slice ta tn tc) ∧ Rd lo hi w ta tn tc (ts.getD i Tok.zero).text

theorem RdT.same {lo hi : Nat} {w w' : World} {a : Option Addr} {n cap : Nat} {ts : List Tok} (h : RdT lo hi w a n cap ts) (hs : Same lo hi w w') : RdT lo hi w' a n cap ts := by
  obtain ⟨hl, hm, hc⟩ := h
  refine ⟨hl, hm, ?_⟩
  rcases hc with h0 | ⟨b, off, e, h1, h2, hc⟩
  · exact .inl h0
  · refine .inr ⟨b, off, e, h1, h2, fun i hi => ?_⟩
    obtain ⟨ta, tn, tc, c1, c2, c3, c4⟩ := hc i hi
    exact ⟨ta, tn, tc, (hs.cell (p := ⟨b, _, none⟩) h1 h2).trans c1, (hs.cell (p := ⟨b, _, none⟩) h1 h2).trans c2, (hs.cell (p := ⟨b, _, none⟩) h1 h2).trans c3, c4.same hs⟩

set_option maxHeartbeats 400000 in
theorem eqTokenS_same (a a' : Option Addr) (n cap cap' : Nat) (ts : List Tok) (w : World) {lo hi lo' hi' : Nat} (h : RdT lo hi w a n cap ts) (h' : RdT lo' hi' w a' n cap' ts) (hh : hi ≤ w.heap.size) (hh' : hi' ≤ w.heap.size) :
    Calls Try.prog 12 #[.slice a n cap, .slice a' n cap'] w fun e w' => e = .returned (.bool true) ∧ Below w.heap.size w w' := by
  have H := h
  have H' := h'
  obtain ⟨hl, ⟨hm, hM⟩, hc⟩ := h
  obtain ⟨_, ⟨hm', hM'⟩, hc'⟩ := h'
  have hb0 : ((n : Int) != (n : Int)) = false := by simp
  by_cases hz : n = 0
  · subst hz
    clear hc hc' H H'
    go_enter Try.func12, Try.ntmps12
    go_wp2
    refine wp_loop_rounds 1 ?_
    rw [rounds_succ]
    go_wp2
    go_ret
    exact ⟨rfl, Below.refl _ _⟩
  · rcases hc with h0 | ⟨b, off, rfl, hlo, hb, hc⟩
    · exact absurd h0 hz
    · rcases hc' with h0 | ⟨b', off', rfl, hlo', hb', hc'⟩
      · exact absurd h0 hz
      · have HC : Hid (RdT lo hi w (some ⟨b, off, none⟩) n cap ts) := H
        have HC' : Hid (RdT lo' hi' w (some ⟨b', off', none⟩) n cap' ts) := H'
        clear hc hc' hl hz H H'
        go_enter Try.func12, Try.ntmps12
        go_wp2
        go_loopw [5] (fun i wr => ∃ k : Nat, k ≤ n ∧ i = .int .i64 k ∧ Below w.heap.size w wr) (fun i _ => n - (intOf i).toNat)
        case atStart => exact ⟨0, Nat.zero_le _, rfl, Below.refl _ _⟩
        case round =>
          obtain ⟨k, hk, rfl, hbel⟩ := hrel
          by_cases hlt : k < n
          · have HB : Hid (Below w.heap.size w wr) := hbel
            have h1 := HC.out.same (Same.of_below hbel hh)
            have h2 := HC'.out.same (Same.of_below hbel hh')
            rcases h1.cells with h0 | ⟨b1, off1, e1, _, _, hc1⟩
            · omega
            · rcases h2.cells with h0 | ⟨b2, off2, e2, _, _, hc2⟩
              · omega
              · simp only [Option.some.injEq, Addr.mk.injEq, and_true] at e1 e2
                obtain ⟨rfl, rfl⟩ := e1
                obtain ⟨rfl, rfl⟩ := e2
                obtain ⟨ta, tn, tc, c1, c2, c3, c4⟩ := hc1 k hlt
                obtain ⟨ta', tn', tc', c1', c2', c3', c4'⟩ := hc2 k hlt
                obtain ⟨t, ht⟩ : ∃ t, t = ts.getD k Tok.zero := ⟨_, rfl⟩
                rw [← ht] at c1 c2 c4 c1' c2' c4'
                obtain ⟨tk, tp, tx⟩ := t
                have C4 : Hid (Rd lo hi wr ta tn tc tx) := c4
                have C4' : Hid (Rd lo' hi' wr ta' tn' tc' tx) := c4'
                have hki : (k : Int) < (n : Int) := by omega
                clear h1 h2 hc1 hc2 ht c4 c4' hbel
                go_wp2
                go_region_with (go_at_call 39; refine (eqToken_same tk tp _ _ _ _ _ _ tx _ (lo := lo) (hi := hi) (lo' := lo') (hi' := hi') ?_ ?_ ?_ ?_).mono ?_; exact C4.out.same (fun _ _ _ => rfl); exact C4'.out.same (fun _ _ _ => rfl); exact Nat.le_trans hh HB.out.size; exact Nat.le_trans hh' HB.out.size; rintro e w' ⟨rfl, hbe⟩)
                all_goals
                  go_wp2
                  go_roundw
                  case rel => exact ⟨k + 1, by omega, by go_num, HB.out.drew.trans (hbe.mono HB.out.size)⟩
                  case measure => simp [intOf]; omega
          · have HB : Hid (Below w.heap.size w wr) := hbel
            clear hbel
            go_wp2
            go_ret
            exact ⟨rfl, HB.out⟩

/-! ### marking -/

/-- Where a slice of tokens has its numbers and its bytes: block and place of each text, and how long it is. -/
def leafT (b off : Nat) (tx : Nat → Nat × Nat × Nat) (n : Nat) : List (Addr × IntKind) :=
  (List.range n).flatMap (fun i => (⟨b, off + i * 3, none⟩, .i64) :: (⟨b, off + i * 3 + 1, none⟩, .i64) :: leafB (tx i).1 (tx i).2.1 (tx i).2.2)

theorem leafT_succ (b off : Nat) (tx : Nat → Nat × Nat × Nat) (n : Nat) :
    leafT b off tx (n + 1) = leafT b off tx n ++ ((⟨b, off + n * 3, none⟩, .i64) :: (⟨b, off + n * 3 + 1, none⟩, .i64) :: leafB (tx n).1 (tx n).2.1 (tx n).2.2) := by
  simp [leafT, List.range_succ]

/-- The text of each token is a slice that leads where 'tx' says. -/
def HeadT (w : World) (b off : Nat) (tx : Nat → Nat × Nat × Nat) (n : Nat) : Prop :=
  ∀ i, i < n → ∃ ta tc, w.cell? ⟨b, off + i * 3 + 2, none⟩ = some (.slice ta (tx i).2.2 tc) ∧ ((tx i).2.2 = 0 ∨ ta = some ⟨(tx i).1, (tx i).2.1, none⟩) ∧ (tx i).2.2 ≤ 1048576

theorem HeadT.marks {b off n : Nat} {tx : Nat → Nat × Nat × Nat} {L : List (Addr × IntKind)} : ∀ {w : World}, HeadT w b off tx n → LeafOk w L → ∀ k, HeadT (marks w L k) b off tx n := by
  induction L with
  | nil => intro w h _ k; exact h
  | cons x L ih =>
    intro w h hL k
    obtain ⟨a, kd⟩ := x
    obtain ⟨⟨m, hm⟩, hf⟩ := hL (a, kd) (by simp)
    have h1' := hL.set hm (kd.wrap k)
    refine ih (fun i hi => ?_) (fun x hx => h1' x (by simp [hx])) (k + 1)
    obtain ⟨ta, tc, hc, r⟩ := h i hi
    refine ⟨ta, tc, ?_, r⟩
    rw [World.cell?_setCell_other _ _ _ _ (fun e => by rw [e] at hm; rw [hm] at hc; simp at hc)]
    exact hc

theorem leafT_sub {b off : Nat} {tx : Nat → Nat × Nat × Nat} : ∀ {n j : Nat}, j ≤ n → ∃ M, leafT b off tx n = leafT b off tx j ++ M := by
  intro n
  induction n with
  | zero => intro j hj; exact ⟨[], by rw [show j = 0 from by omega]; simp⟩
  | succ n ih =>
    intro j hj
    by_cases e : j = n + 1
    · exact ⟨[], by rw [e]; simp⟩
    · obtain ⟨M, hM⟩ := ih (show j ≤ n by omega)
      exact ⟨_, by rw [leafT_succ, hM, List.append_assoc]⟩

theorem leafT_chunk {b off : Nat} {tx : Nat → Nat × Nat × Nat} {n j : Nat} (h : j < n) : ∃ M, leafT b off tx n = leafT b off tx j ++ (((⟨b, off + j * 3, none⟩, .i64) :: (⟨b, off + j * 3 + 1, none⟩, .i64) :: leafB (tx j).1 (tx j).2.1 (tx j).2.2) ++ M) := by
  obtain ⟨M, hM⟩ := leafT_sub (b := b) (off := off) (tx := tx) (show j + 1 ≤ n from h)
  exact ⟨M, by rw [hM, leafT_succ, List.append_assoc]⟩

set_option maxHeartbeats 400000 in
theorem markTokenS_any (a : Option Addr) (n cap : Nat) (k : Int) (w : World) (b off : Nat) (tx : Nat → Nat × Nat × Nat) (ha : n = 0 ∨ a = some ⟨b, off, none⟩) (hH : HeadT w b off tx n) (hL : LeafOk w (leafT b off tx n)) (hn : n ≤ 1048576)
    (hk : 0 ≤ k) (hk' : k + (leafT b off tx n).length ≤ 1073741824) :
    Calls Try.prog 15 #[.slice a n cap, .int .i64 k] w fun e w' => e = .returned (.int .i64 (k + (leafT b off tx n).length)) ∧ w' = marks w (leafT b off tx n) k := by
  rcases ha with h0 | rfl
  · subst h0
    have HE : Hid (k = k + ((leafT b off tx 0).length : Int)) := by simp [Hid, leafT]
    clear hL hH hk'
    go_enter Try.func15, Try.ntmps15
    go_wp2
    refine wp_loop_rounds 1 ?_
    rw [rounds_succ]
    go_wp2
    go_ret
    exact ⟨ri HE.out, rfl⟩
  · have HL : Hid (LeafOk w (leafT b off tx n)) := hL
    have HH : Hid (HeadT w b off tx n) := hH
    have HK : Hid (k + (leafT b off tx n).length ≤ 1073741824) := hk'
    clear hL hH hk'
    go_enter Try.func15, Try.ntmps15
    go_wp2
    go_loopw [1, 5] (fun q i wr => ∃ j : Nat, j ≤ n ∧ i = .int .i64 j ∧ q = .int .i64 (k + (leafT b off tx j).length) ∧ wr = marks w (leafT b off tx j) k) (fun _ i _ => n - (intOf i).toNat)
    case atStart => exact ⟨0, Nat.zero_le _, rfl, by simp [leafT], rfl⟩
    case round =>
      obtain ⟨j, hj, rfl, rfl, hwr⟩ := hrel
      by_cases hlt : j < n
      · obtain ⟨M, hM⟩ := leafT_chunk (b := b) (off := off) (tx := tx) hlt
        have hLj : LeafOk w (leafT b off tx j) := fun x hx => HL.out x (by rw [hM]; simp [hx])
        have hOk := (hLj.marks HL.out k).1
        have hHd := HH.out.marks hLj k
        rw [← hwr] at hOk hHd
        obtain ⟨ta, tc, c3, hta, htn⟩ := hHd j hlt
        obtain ⟨⟨m0, c0⟩, f0⟩ := hOk (⟨b, off + j * 3, none⟩, .i64) (by rw [hM]; simp)
        obtain ⟨⟨m1, c1⟩, f1⟩ := hOk (⟨b, off + j * 3 + 1, none⟩, .i64) (by rw [hM]; simp)
        have hLb : LeafOk wr (leafB (tx j).1 (tx j).2.1 (tx j).2.2) := fun x hx => hOk x (by rw [hM]; simp [hx])
        obtain ⟨q, hq⟩ : ∃ q, q = k + ((leafT b off tx j).length : Int) := ⟨_, rfl⟩
        have hq0 : 0 ≤ q := by omega
        have hlen : ((leafT b off tx n).length : Int) = (leafT b off tx j).length + (2 + (tx j).2.2 + M.length) := by
          rw [hM]; simp only [List.length_append, List.length_cons, leafB_length]; omega
        have hq1 : q + 2 + (tx j).2.2 ≤ 1073741824 := by have := HK.out; omega
        rw [← hq]
        have h64 : IntKind.i64.wrap q = q := wrap64_id (by omega)
        have h64' : IntKind.i64.wrap (q + 1) = q + 1 := wrap64_id (by omega)
        have h1 := hLb.set c0 q
        have c1' : (wr.setCell ⟨b, off + j * 3, none⟩ (.int .i64 q)).cell? ⟨b, off + j * 3 + 1, none⟩ = some (.int .i64 m1) := by
          rw [World.cell?_setCell_other _ _ _ _ (by simp)]; exact c1
        have h2 : Hid (LeafOk ((wr.setCell ⟨b, off + j * 3, none⟩ (.int .i64 q)).setCell ⟨b, off + j * 3 + 1, none⟩ (.int .i64 (q + 1))) (leafB (tx j).1 (tx j).2.1 (tx j).2.2)) := h1.set c1' (q + 1)
        have HW : Hid (marks ((wr.setCell ⟨b, off + j * 3, none⟩ (.int .i64 q)).setCell ⟨b, off + j * 3 + 1, none⟩ (.int .i64 (q + 1))) (leafB (tx j).1 (tx j).2.1 (tx j).2.2) (q + 1 + 1) = marks w (leafT b off tx (j + 1)) k) := by
          unfold Hid; rw [leafT_succ, marks_append, ← hwr, ← hq]; simp only [marks, h64, h64']
        have HQ : Hid (q + 1 + 1 + ((tx j).2.2 : Int) = k + ((leafT b off tx (j + 1)).length : Int)) := by
          unfold Hid; rw [leafT_succ]; simp only [List.length_append, List.length_cons, leafB_length]; omega
        clear hM hLj hOk hHd hLb hlen h64 h64' h1 hwr hq c1'
        go_wp2_with fail
        refine (markByteS_any ta (tx j).2.2 tc _ _ (tx j).1 (tx j).2.1 hta h2.out htn (by omega)).mono ?_
        rintro e w3 ⟨rfl, hw3⟩
        go_wp2
        go_roundw
        case rel => exact ⟨j + 1, by omega, by go_num, by rw [← HQ.out], HW.out⟩
        case measure => simp [intOf]; omega
      · have hjn : j = n := by omega
        subst hjn
        have HW : Hid (wr = marks w (leafT b off tx j) k) := hwr
        clear hwr
        go_wp2
        go_ret
        exact ⟨rfl, HW.out⟩

set_option maxHeartbeats 400000 in
theorem heldTokenS_any (a : Option Addr) (n cap : Nat) (k : Int) (w : World) (b off : Nat) (tx : Nat → Nat × Nat × Nat) (ha : n = 0 ∨ a = some ⟨b, off, none⟩) (hH : HeadT w b off tx n) (hL : Held w (leafT b off tx n) k) (hn : n ≤ 1048576)
    (hk : 0 ≤ k) (hk' : k + (leafT b off tx n).length ≤ 1073741824) :
    Calls Try.prog 16 #[.slice a n cap, .int .i64 k] w fun e w' => e = .returned (.int .i64 (k + (leafT b off tx n).length)) ∧ w' = w := by
  rcases ha with h0 | rfl
  · subst h0
    have HE : Hid (k = k + ((leafT b off tx 0).length : Int)) := by simp [Hid, leafT]
    clear hL hH hk'
    go_enter Try.func16, Try.ntmps16
    go_wp2
    refine wp_loop_rounds 1 ?_
    rw [rounds_succ]
    go_wp2
    go_ret
    exact ⟨ri HE.out, rfl⟩
  · have HL : Hid (Held w (leafT b off tx n) k) := hL
    have HH : Hid (HeadT w b off tx n) := hH
    have HK : Hid (k + (leafT b off tx n).length ≤ 1073741824) := hk'
    clear hL hH hk'
    go_enter Try.func16, Try.ntmps16
    go_wp2
    go_loop [1, 5] (fun q i => ∃ j : Nat, j ≤ n ∧ i = .int .i64 j ∧ q = .int .i64 (k + (leafT b off tx j).length)) (fun _ i => n - (intOf i).toNat)
    case atStart => exact ⟨0, Nat.zero_le _, rfl, by simp [leafT]⟩
    case round =>
      obtain ⟨j, hj, rfl, rfl⟩ := hrel
      by_cases hlt : j < n
      · obtain ⟨M, hM⟩ := leafT_chunk (b := b) (off := off) (tx := tx) hlt
        obtain ⟨q, hq⟩ : ∃ q, q = k + ((leafT b off tx j).length : Int) := ⟨_, rfl⟩
        have hHeld := HL.out
        rw [hM, held_append, held_append, ← hq] at hHeld
        obtain ⟨_, ⟨c0, c1, hB⟩, _⟩ := hHeld
        obtain ⟨ta, tc, c3, hta, htn⟩ := HH.out j hlt
        have hq0 : 0 ≤ q := by omega
        have hlen : ((leafT b off tx n).length : Int) = (leafT b off tx j).length + (2 + (tx j).2.2 + M.length) := by
          rw [hM]; simp only [List.length_append, List.length_cons, leafB_length]; omega
        have hq1 : q + 2 + (tx j).2.2 ≤ 1073741824 := by have := HK.out; omega
        rw [← hq]
        rw [wrap64_id (by omega)] at c0 c1
        have hc := held_leafB hB
        have HB : Hid (∀ i, i < (tx j).2.2 → w.cell? ⟨(tx j).1, (tx j).2.1 + i, none⟩ = some (.int .u8 (IntKind.u8.wrap (q + 1 + 1 + i)))) := hc
        have HQ : Hid (q + 1 + 1 + ((tx j).2.2 : Int) = k + ((leafT b off tx (j + 1)).length : Int)) := by
          unfold Hid; rw [leafT_succ]; simp only [List.length_append, List.length_cons, leafB_length]; omega
        have hb0 : (q != q) = false := by simp
        have hb1 : (q + 1 != q + 1) = false := by simp
        clear hM hlen hq hB hc
        go_wp2_with fail
        refine (heldByteS_any ta (tx j).2.2 tc _ _ (tx j).1 (tx j).2.1 hta HB.out htn (by omega)).mono ?_
        rintro e w3 ⟨rfl, rfl⟩
        go_wp2
        go_round
        case rel => exact ⟨j + 1, by omega, by go_num, by rw [← HQ.out]⟩
        case measure => simp [intOf]; omega
      · have hjn : j = n := by omega
        subst hjn
        go_wp2
        go_ret
        exact ⟨rfl, rfl⟩

end Go.Proofs.Ytbjkokndnfmcpag
