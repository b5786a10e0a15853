/- The laws' own copy of a slice of bytes, their comparison of two, their marking of one and their look at the marks: a contract each. -/
import Derived.Test.YthojlfcahhjfaaaRows
import Derived.Test.YthojlfcahhjfaaaMem
import Derived.Deep.QuietTactic
import Derived.BigQuiet
namespace Go.Proofs.Ythojlfcahhjfaaa
open Go.RowKit

theorem Try.info5 : (Try.prog.info? 5).map (fun i => (i.zero, i.size, i.bytes)) = some (some (.int .u8 0), 1, 1) := by kernel_rfl

def part (zs : List Int) (k : Nat) (i : Nat) : Value := .int .u8 (if i < k then zs.getD i 0 else 0)

theorem row_step {w : World} {g n : Nat} {zs : List Int} {k : Nat} (h : w.rowIs g 5 n (part zs k)) : (w.setCell ⟨g, k, none⟩ (.int .u8 (zs.getD k 0))).rowIs g 5 n (part zs (k + 1)) := by
  refine (h.set k _).congr fun i _ => ?_
  unfold part
  by_cases e : i = k
  · subst e; simp
  · rw [if_neg e]
    congr 1
    by_cases h1 : i < k
    · rw [if_pos h1, if_pos (by omega)]
    · rw [if_neg h1, if_neg (by omega)]

set_option maxHeartbeats 400000 in
theorem toByteS_any (a : Option Addr) (n cap : Nat) (zs : List Int) (w : World) {lo hi : Nat} (h : Rd lo hi w a n cap zs) (hhi : hi ≤ w.heap.size) (hn : n ≤ 1048576) :
    Calls Try.prog 34 #[.slice a n cap] w fun e w' => e = .returned (.slice (some ⟨w.heap.size, 0, none⟩) n n) ∧ Row w' w.heap.size n zs ∧ Below w.heap.size w w' := by
  obtain ⟨hl, ⟨hm, _⟩, hby, hc⟩ := h
  have hmk := fun w : World => run_make_row' (P := Try.prog) 22 5 (.int .u8 0) 1 Try.underlying22 Try.info5 rfl .i64 .i64 n (by omega) (by omega) w
  rcases hc with h0 | ⟨b, off, rfl, hlo, hb, hc⟩
  · subst h0
    have hz : zs = [] := List.eq_nil_of_length_eq_zero hl
    have HR : Hid (Row (w.alloc (.cells (madeCells #[.int .u8 0] 0) 5)) w.heap.size 0 zs) := by
      have e := Row.of_rowIs (w := w.alloc (.cells (madeCells #[.int .u8 0] 0) 5)) (g := w.heap.size) (zs := zs) (by rw [hl]; exact (World.rowIs_made w (.int .u8 0) 0 5).congr (fun i hi => by omega))
      rw [hl] at e; exact e
    have hmk0 : ∀ w : World, (Instr.makeSlice 22 (.int .i64 0) (.int .i64 0)).run Try.prog w = .ok (.slice (some ⟨w.heap.size, 0, none⟩) 0 0) (w.alloc (.cells (madeCells #[.int .u8 0] 0) 5)) := fun w => hmk w
    clear hby hmk
    go_enter Try.func34, Try.ntmps34
    go_wp2
    refine wp_loop_rounds 1 ?_
    rw [rounds_succ]
    go_wp2
    go_ret
    exact ⟨rfl, HR.out, (Below.refl _ _).alloc (Nat.le_refl _) _⟩
  · have HCell : Hid (∀ j, j < n → w.cell? ⟨b, off + j, none⟩ = some (.int .u8 (zs.getD j 0))) := hc
    have HL : Hid (zs.length = n) := hl
    have h0 : Hid ((w.alloc (.cells (madeCells #[.int .u8 0] n) 5)).rowIs w.heap.size 5 n (part zs 0)) := (World.rowIs_made w (.int .u8 0) n 5).congr (fun i _ => by simp [part])
    clear hc hby hl
    go_enter Try.func34, Try.ntmps34
    go_wp2
    go_loopw [4] (fun i wr => ∃ k : Nat, k ≤ n ∧ i = .int .i64 k ∧ wr.rowIs w.heap.size 5 n (part zs k) ∧ Below w.heap.size w wr) (fun i _ => n - (intOf i).toNat)
    case atStart => exact ⟨0, Nat.zero_le _, rfl, h0.out, (Below.refl _ _).alloc (Nat.le_refl _) _⟩
    case round =>
      obtain ⟨k, hk, rfl, hrow, hbel⟩ := hrel
      by_cases hlt : k < n
      · obtain ⟨c, HC⟩ : ∃ c, Hid (c = zs.getD k 0) := ⟨_, rfl⟩
        have hck : wr.cell? ⟨b, off + k, none⟩ = some (.int .u8 c) := by rw [hbel.cell (p := ⟨b, off + k, none⟩) (by show b < _; omega), HC.out]; exact HCell.out k hlt
        have hfz := hrow.frozen k
        have hold : wr.cell? ⟨w.heap.size, k, none⟩ = some (.int .u8 0) := by have := hrow.cell hlt; simpa [part] using this
        have HR : Hid ((wr.setCell ⟨w.heap.size, k, none⟩ (.int .u8 c)).rowIs w.heap.size 5 n (part zs (k + 1))) := by unfold Hid; rw [HC.out]; exact row_step hrow
        have HB : Hid (Below w.heap.size w (wr.setCell ⟨w.heap.size, k, none⟩ (.int .u8 c))) := hbel.setCell (Nat.le_refl _) _
        clear hrow hbel
        go_wp2
        go_roundw
        case rel => exact ⟨k + 1, by omega, by go_num, HR.out, HB.out⟩
        case measure => simp [intOf]; omega
      · have hkn : k = n := by omega
        have HR : Hid (Row wr w.heap.size n zs) := by
          have e := Row.of_rowIs (w := wr) (g := w.heap.size) (zs := zs) (by rw [HL.out]; exact hrow.congr (fun i hi => by simp [part, hkn, hi]))
          rw [HL.out] at e; exact e
        have HB : Hid (Below w.heap.size w wr) := hbel
        clear hrow hbel hkn
        go_wp2
        go_ret
        exact ⟨rfl, HR.out, HB.out⟩

theorem take_eq_succ {xs ys : List Int} {k : Nat} (hx : k < xs.length) (hy : k < ys.length) (h : xs.take k = ys.take k) (e : xs.getD k 0 = ys.getD k 0) : xs.take (k + 1) = ys.take (k + 1) := by
  rw [List.take_succ_eq_append_getElem hx, List.take_succ_eq_append_getElem hy, h]
  simp [List.getD, hx, hy] at e
  rw [e]

set_option maxHeartbeats 400000 in
theorem eqByteS_any (a a' : Option Addr) (n cap n' cap' : Nat) (xs ys : List Int) (w : World) {lo hi lo' hi' : Nat} (h : Rd lo hi w a n cap xs) (h' : Rd lo' hi' w a' n' cap' ys) :
    Calls Try.prog 29 #[.slice a n cap, .slice a' n' cap'] w fun e w' => e = .returned (.bool (decide (xs = ys))) ∧ ∃ nd, w' = w.drewN nd := by
  obtain ⟨hl, ⟨hm, hM⟩, hby, hc⟩ := h
  obtain ⟨hl', ⟨hm', hM'⟩, hby', hc'⟩ := h'
  by_cases hne : n = n'
  · subst hne
    have hb0 : ((n : Int) != (n : Int)) = false := by simp
    rcases hc with h0 | ⟨b, off, rfl, hlo, hb, hc⟩
    · subst h0
      have hx : xs = [] := List.eq_nil_of_length_eq_zero hl
      have hy : ys = [] := List.eq_nil_of_length_eq_zero hl'
      have HF : Hid (decide (xs = ys) = true) := by simp [Hid, hx, hy]
      clear hx hy hby hby' hc' hl hl'
      go_enter Try.func29, Try.ntmps29
      go_wp2
      refine wp_loop_rounds 1 ?_
      rw [rounds_succ]
      go_wp2
      go_ret
      exact ⟨rb HF.out.symm, 0, rfl⟩
    · rcases hc' with h0 | ⟨b', off', rfl, hlo', hb', hc'⟩
      · subst h0
        have hx : xs = [] := List.eq_nil_of_length_eq_zero hl
        have hy : ys = [] := List.eq_nil_of_length_eq_zero hl'
        have HF : Hid (decide (xs = ys) = true) := by simp [Hid, hx, hy]
        clear hx hy hby hby' hc hl hl'
        go_enter Try.func29, Try.ntmps29
        go_wp2
        refine wp_loop_rounds 1 ?_
        rw [rounds_succ]
        go_wp2
        go_ret
        exact ⟨rb HF.out.symm, 0, rfl⟩
      · have HC : Hid (∀ j, j < n → w.cell? ⟨b, off + j, none⟩ = some (.int .u8 (xs.getD j 0))) := hc
        have HC' : Hid (∀ j, j < n → w.cell? ⟨b', off' + j, none⟩ = some (.int .u8 (ys.getD j 0))) := hc'
        have HL : Hid (xs.length = n) := hl
        have HL' : Hid (ys.length = n) := hl'
        clear hc hby hl hc' hby' hl'
        go_enter Try.func29, Try.ntmps29
        go_wp2
        go_loopw [5] (fun i wr => ∃ k : Nat, k ≤ n ∧ i = .int .i64 k ∧ xs.take k = ys.take k ∧ ∃ nd, wr = w.drewN nd) (fun i _ => n - (intOf i).toNat)
        case atStart => exact ⟨0, Nat.zero_le _, rfl, by simp, 0, rfl⟩
        case round =>
          obtain ⟨k, hk, rfl, htk, nd, hwr⟩ := hrel
          have HT : Hid (xs.take k = ys.take k) := htk
          clear htk
          subst hwr
          by_cases hlt : k < n
          · obtain ⟨c, HX⟩ : ∃ c, Hid (c = xs.getD k 0) := ⟨_, rfl⟩
            obtain ⟨c', HY⟩ : ∃ c, Hid (c = ys.getD k 0) := ⟨_, rfl⟩
            have hck : w.cell? ⟨b, off + k, none⟩ = some (.int .u8 c) := by rw [HX.out]; exact HC.out k hlt
            have hck' : w.cell? ⟨b', off' + k, none⟩ = some (.int .u8 c') := by rw [HY.out]; exact HC'.out k hlt
            have hki : (k : Int) < (n : Int) := by omega
            by_cases hcc : c = c'
            · have HF : Hid (xs.take (k + 1) = ys.take (k + 1)) := take_eq_succ (by rw [HL.out]; omega) (by rw [HL'.out]; omega) HT.out (by rw [← HX.out, ← HY.out]; exact hcc)
              have hb1 : (c != c') = false := by simp [hcc]
              clear hcc
              go_wp2
              go_quiet (fail)
              go_wp2
              go_roundw
              case rel => exact ⟨k + 1, by omega, by go_num, HF.out, nd + nq, by first | rfl | exact drew_add _ _ _⟩
              case measure => simp [intOf]; omega
            · have HF : Hid (decide (xs = ys) = false) := by unfold Hid; rw [decide_eq_false_iff_not]; intro e; apply hcc; rw [HX.out, HY.out, e]
              have hb1 : (c != c') = true := by simp [hcc]
              clear hcc
              go_wp2
              go_quiet (fail)
              go_wp2
              go_ret
              exact ⟨rb HF.out.symm, nd + nq, by first | rfl | exact drew_add _ _ _⟩
          · have HF : Hid (decide (xs = ys) = true) := by
              have e1 : xs.take k = xs := List.take_of_length_le (by rw [HL.out]; omega)
              have e2 : ys.take k = ys := List.take_of_length_le (by rw [HL'.out]; omega)
              unfold Hid; rw [decide_eq_true_iff, ← e1, ← e2]; exact HT.out
            go_wp2
            go_ret
            exact ⟨rb HF.out.symm, nd, rfl⟩
  · have HF : Hid (decide (xs = ys) = false) := by unfold Hid; rw [decide_eq_false_iff_not]; intro e; rw [e] at hl; omega
    have hb1 : ((n : Int) != (n' : Int)) = true := by simp; omega
    clear hby hby' hc hc' hl hl' hne
    go_enter Try.func29, Try.ntmps29
    go_wp2
    go_ret
    exact ⟨rb HF.out.symm, 0, rfl⟩

/-! ### marking -/

/-- The cells of a slice of bytes. -/
def leafB (b off n : Nat) : List (Addr × IntKind) := (List.range n).map (fun j => (⟨b, off + j, none⟩, .u8))

theorem leafB_succ (b off n : Nat) : leafB b off (n + 1) = leafB b off n ++ [(⟨b, off + n, none⟩, .u8)] := by simp [leafB, List.range_succ]
theorem leafB_length (b off n : Nat) : (leafB b off n).length = n := by simp [leafB]

set_option maxHeartbeats 400000 in
theorem markByteS_any (a : Option Addr) (n cap : Nat) (k : Int) (w : World) (b off : Nat) (ha : n = 0 ∨ a = some ⟨b, off, none⟩) (hL : LeafOk w (leafB b off n)) (hn : n ≤ 1048576) (hk : 0 ≤ k ∧ k ≤ 1073741824) :
    Calls Try.prog 31 #[.slice a n cap, .int .i64 k] w fun e w' => e = .returned (.int .i64 (k + n)) ∧ w' = marks w (leafB b off n) k := by
  obtain ⟨hk0, hk1⟩ := hk
  rcases ha with h0 | rfl
  · subst h0
    clear hL
    go_enter Try.func31, Try.ntmps31
    go_wp2
    refine wp_loop_rounds 1 ?_
    rw [rounds_succ]
    go_wp2
    go_ret
    exact ⟨ri (by simp), rfl⟩
  · have HL : Hid (LeafOk w (leafB b off n)) := hL
    clear hL
    go_enter Try.func31, Try.ntmps31
    go_wp2
    go_loopw [1, 5] (fun q i wr => ∃ j : Nat, j ≤ n ∧ i = .int .i64 j ∧ q = .int .i64 (k + j) ∧ wr = marks w (leafB b off j) k) (fun _ i _ => n - (intOf i).toNat)
    case atStart => exact ⟨0, Nat.zero_le _, rfl, by simp, rfl⟩
    case round =>
      obtain ⟨j, hj, rfl, rfl, hwr⟩ := hrel
      by_cases hlt : j < n
      · have hsub : ∀ x ∈ leafB b off j, x ∈ leafB b off n := by
          intro x hx; simp only [leafB, List.mem_map, List.mem_range] at hx ⊢; obtain ⟨i, hi, e⟩ := hx; exact ⟨i, by omega, e⟩
        have hLj : LeafOk w (leafB b off j) := fun x hx => HL.out x (hsub x hx)
        have hmem : ((⟨b, off + j, none⟩ : Addr), IntKind.u8) ∈ leafB b off n := by simp only [leafB, List.mem_map, List.mem_range]; exact ⟨j, hlt, rfl⟩
        have hOk := (hLj.marks HL.out k).1 _ hmem
        rw [← hwr] at hOk
        obtain ⟨⟨m, hm⟩, hf⟩ := hOk
        have HW : Hid (wr.setCell ⟨b, off + j, none⟩ (.int .u8 (IntKind.u8.wrap (k + j))) = marks w (leafB b off (j + 1)) k) := by
          unfold Hid; rw [leafB_succ, marks_append, ← hwr, leafB_length]; rfl
        clear hsub hLj hmem hwr
        go_wp2
        go_roundw
        case rel => exact ⟨j + 1, by omega, by go_num, by go_num, HW.out⟩
        case measure => simp [intOf]; omega
      · have hjn : j = n := by omega
        have HW : Hid (wr = marks w (leafB b off n) k) := by rw [← hjn]; exact hwr
        have HE : Hid (k + (j : Int) = k + n) := by unfold Hid; omega
        clear hwr hjn
        go_wp2
        go_ret
        exact ⟨ri HE.out, HW.out⟩

set_option maxHeartbeats 400000 in
theorem heldByteS_any (a : Option Addr) (n cap : Nat) (k : Int) (w : World) (b off : Nat) (ha : n = 0 ∨ a = some ⟨b, off, none⟩) (hc : ∀ j, j < n → w.cell? ⟨b, off + j, none⟩ = some (.int .u8 (IntKind.u8.wrap (k + j)))) (hn : n ≤ 1048576) (hk : 0 ≤ k ∧ k ≤ 1073741824) :
    Calls Try.prog 32 #[.slice a n cap, .int .i64 k] w fun e w' => e = .returned (.int .i64 (k + n)) ∧ w' = w := by
  obtain ⟨hk0, hk1⟩ := hk
  rcases ha with h0 | rfl
  · subst h0
    clear hc
    go_enter Try.func32, Try.ntmps32
    go_wp2
    refine wp_loop_rounds 1 ?_
    rw [rounds_succ]
    go_wp2
    go_ret
    exact ⟨ri (by simp), rfl⟩
  · have HC : Hid (∀ j, j < n → w.cell? ⟨b, off + j, none⟩ = some (.int .u8 (IntKind.u8.wrap (k + j)))) := hc
    clear hc
    go_enter Try.func32, Try.ntmps32
    go_wp2
    go_loop [1, 5] (fun q i => ∃ j : Nat, j ≤ n ∧ i = .int .i64 j ∧ q = .int .i64 (k + j)) (fun _ i => n - (intOf i).toNat)
    case atStart => exact ⟨0, Nat.zero_le _, rfl, by simp⟩
    case round =>
      obtain ⟨j, hj, rfl, rfl⟩ := hrel
      by_cases hlt : j < n
      · have hm := HC.out j hlt
        go_wp2
        go_round
        case rel => exact ⟨j + 1, by omega, by go_num, by go_num⟩
        case measure => simp [intOf]; omega
      · have HE : Hid (k + (j : Int) = k + n) := by unfold Hid; omega
        go_wp2
        go_ret
        exact ⟨ri HE.out, rfl⟩

theorem held_leafB {w : World} {b off : Nat} {k : Int} : ∀ {n : Nat}, Held w (leafB b off n) k → ∀ j, j < n → w.cell? ⟨b, off + j, none⟩ = some (.int .u8 (IntKind.u8.wrap (k + j))) := by
  intro n
  induction n with
  | zero => intro _ j hj; omega
  | succ n ih =>
    intro h j hj
    rw [leafB_succ, held_append, leafB_length] at h
    by_cases e : j = n
    · subst e; exact h.2.1
    · exact ih h.1 j (by omega)

end Go.Proofs.Ythojlfcahhjfaaa
