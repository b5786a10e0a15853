/- Several texts in one: Bytes, Conv, ConTo, OpenB, ConOpen, SzB, ConSz, ConEq. -/
import Derived.Test.YtckhjoancfbkfaaGreatRows
import Derived.Test.YtckhjoancfbkfaaGreatNG1
import Derived.Deep.QuietTactic
import Derived.BigQuiet
import Derived.Laws.BytesArg
import Derived.Deep.Strs
import Derived.Deep.Slices
import Derived.ChangeOld
import Derived.OpenShut
import Derived.Deep.RegionWith
namespace Go.Proofs.YtckhjoancfbkfaaGreat

section
open Go.RowKit

theorem Tryz.info5 : (Tryz.prog.info? 5).map (fun i => (i.zero, i.size, i.bytes)) = some (some (.int .u8 0), 1, 1) := by kernel_rfl

def part (zs : List Int) (k : Nat) (i : Nat) : Value := .int .u8 (if i < k then zs.getD i 0 else 0)

theorem row_step {w : World} {g n : Nat} {zs : List Int} {k : Nat} (h : w.rowIs g 5 n (part zs k)) : (w.setCell ⟨g, k, none⟩ (.int .u8 (zs.getD k 0))).rowIs g 5 n (part zs (k + 1)) := by
  refine (h.set k _).congr fun i _ => ?_
  unfold part
  by_cases e : i = k
  · subst e; simp
  · rw [if_neg e]
    congr 1
    by_cases h1 : i < k
    · rw [if_pos h1, if_pos (by omega)]
    · rw [if_neg h1, if_neg (by omega)]

set_option maxHeartbeats 400000 in
theorem toByteS_any (a : Option Addr) (n cap : Nat) (zs : List Int) (w : World) {lo hi : Nat} (h : Rd lo hi w a n cap zs) (hhi : hi ≤ w.heap.size) (hn : n ≤ 1048576) :
    Calls Tryz.prog 26 #[.slice a n cap] w fun e w' => e = .returned (.slice (some ⟨w.heap.size, 0, none⟩) n n) ∧ Row w' w.heap.size n zs ∧ Below w.heap.size w w' := by
  obtain ⟨hl, ⟨hm, _⟩, hby, hc⟩ := h
  have hmk := fun w : World => run_make_row' (P := Tryz.prog) 22 5 (.int .u8 0) 1 Tryz.underlying22 Tryz.info5 rfl .i64 .i64 n (by omega) (by omega) w
  rcases hc with h0 | ⟨b, off, rfl, hlo, hb, hc⟩
  · subst h0
    have hz : zs = [] := List.eq_nil_of_length_eq_zero hl
    have HR : Hid (Row (w.alloc (.cells (madeCells #[.int .u8 0] 0) 5)) w.heap.size 0 zs) := by
      have e := Row.of_rowIs (w := w.alloc (.cells (madeCells #[.int .u8 0] 0) 5)) (g := w.heap.size) (zs := zs) (by rw [hl]; exact (World.rowIs_made w (.int .u8 0) 0 5).congr (fun i hi => by omega))
      rw [hl] at e; exact e
    have hmk0 : ∀ w : World, (Instr.makeSlice 22 (.int .i64 0) (.int .i64 0)).run Tryz.prog w = .ok (.slice (some ⟨w.heap.size, 0, none⟩) 0 0) (w.alloc (.cells (madeCells #[.int .u8 0] 0) 5)) := fun w => hmk w
    clear hby hmk
    go_enter Tryz.func26, Tryz.ntmps26
    go_wp2
    refine wp_loop_rounds 1 ?_
    rw [rounds_succ]
    go_wp2
    go_ret
    exact ⟨rfl, HR.out, (Below.refl _ _).alloc (Nat.le_refl _) _⟩
  · have HCell : Hid (∀ j, j < n → w.cell? ⟨b, off + j, none⟩ = some (.int .u8 (zs.getD j 0))) := hc
    have HL : Hid (zs.length = n) := hl
    have h0 : Hid ((w.alloc (.cells (madeCells #[.int .u8 0] n) 5)).rowIs w.heap.size 5 n (part zs 0)) := (World.rowIs_made w (.int .u8 0) n 5).congr (fun i _ => by simp [part])
    clear hc hby hl
    go_enter Tryz.func26, Tryz.ntmps26
    go_wp2
    go_loopw [4] (fun i wr => ∃ k : Nat, k ≤ n ∧ i = .int .i64 k ∧ wr.rowIs w.heap.size 5 n (part zs k) ∧ Below w.heap.size w wr) (fun i _ => n - (intOf i).toNat)
    case atStart => exact ⟨0, Nat.zero_le _, rfl, h0.out, (Below.refl _ _).alloc (Nat.le_refl _) _⟩
    case round =>
      obtain ⟨k, hk, rfl, hrow, hbel⟩ := hrel
      by_cases hlt : k < n
      · obtain ⟨c, HC⟩ : ∃ c, Hid (c = zs.getD k 0) := ⟨_, rfl⟩
        have hck : wr.cell? ⟨b, off + k, none⟩ = some (.int .u8 c) := by rw [hbel.cell (p := ⟨b, off + k, none⟩) (by show b < _; omega), HC.out]; exact HCell.out k hlt
        have hfz := hrow.frozen k
        have hold : wr.cell? ⟨w.heap.size, k, none⟩ = some (.int .u8 0) := by have := hrow.cell hlt; simpa [part] using this
        have HR : Hid ((wr.setCell ⟨w.heap.size, k, none⟩ (.int .u8 c)).rowIs w.heap.size 5 n (part zs (k + 1))) := by unfold Hid; rw [HC.out]; exact row_step hrow
        have HB : Hid (Below w.heap.size w (wr.setCell ⟨w.heap.size, k, none⟩ (.int .u8 c))) := hbel.setCell (Nat.le_refl _) _
        clear hrow hbel
        go_wp2
        go_roundw
        case rel => exact ⟨k + 1, by omega, by go_num, HR.out, HB.out⟩
        case measure => simp [intOf]; omega
      · have hkn : k = n := by omega
        have HR : Hid (Row wr w.heap.size n zs) := by
          have e := Row.of_rowIs (w := wr) (g := w.heap.size) (zs := zs) (by rw [HL.out]; exact hrow.congr (fun i hi => by simp [part, hkn, hi]))
          rw [HL.out] at e; exact e
        have HB : Hid (Below w.heap.size w wr) := hbel
        clear hrow hbel hkn
        go_wp2
        go_ret
        exact ⟨rfl, HR.out, HB.out⟩

theorem take_eq_succ {xs ys : List Int} {k : Nat} (hx : k < xs.length) (hy : k < ys.length) (h : xs.take k = ys.take k) (e : xs.getD k 0 = ys.getD k 0) : xs.take (k + 1) = ys.take (k + 1) := by
  rw [List.take_succ_eq_append_getElem hx, List.take_succ_eq_append_getElem hy, h]
  simp [List.getD, hx, hy] at e
  rw [e]

set_option maxHeartbeats 400000 in
theorem eqByteS_any (a a' : Option Addr) (n cap n' cap' : Nat) (xs ys : List Int) (w : World) {lo hi lo' hi' : Nat} (h : Rd lo hi w a n cap xs) (h' : Rd lo' hi' w a' n' cap' ys) :
    Calls Tryz.prog 28 #[.slice a n cap, .slice a' n' cap'] w fun e w' => e = .returned (.bool (decide (xs = ys))) ∧ ∃ nd, w' = w.drewN nd := by
  obtain ⟨hl, ⟨hm, hM⟩, hby, hc⟩ := h
  obtain ⟨hl', ⟨hm', hM'⟩, hby', hc'⟩ := h'
  by_cases hne : n = n'
  · subst hne
    have hb0 : ((n : Int) != (n : Int)) = false := by simp
    rcases hc with h0 | ⟨b, off, rfl, hlo, hb, hc⟩
    · subst h0
      have hx : xs = [] := List.eq_nil_of_length_eq_zero hl
      have hy : ys = [] := List.eq_nil_of_length_eq_zero hl'
      have HF : Hid (decide (xs = ys) = true) := by simp [Hid, hx, hy]
      clear hx hy hby hby' hc' hl hl'
      go_enter Tryz.func28, Tryz.ntmps28
      go_wp2
      refine wp_loop_rounds 1 ?_
      rw [rounds_succ]
      go_wp2
      go_ret
      exact ⟨rb HF.out.symm, 0, rfl⟩
    · rcases hc' with h0 | ⟨b', off', rfl, hlo', hb', hc'⟩
      · subst h0
        have hx : xs = [] := List.eq_nil_of_length_eq_zero hl
        have hy : ys = [] := List.eq_nil_of_length_eq_zero hl'
        have HF : Hid (decide (xs = ys) = true) := by simp [Hid, hx, hy]
        clear hx hy hby hby' hc hl hl'
        go_enter Tryz.func28, Tryz.ntmps28
        go_wp2
        refine wp_loop_rounds 1 ?_
        rw [rounds_succ]
        go_wp2
        go_ret
        exact ⟨rb HF.out.symm, 0, rfl⟩
      · have HC : Hid (∀ j, j < n → w.cell? ⟨b, off + j, none⟩ = some (.int .u8 (xs.getD j 0))) := hc
        have HC' : Hid (∀ j, j < n → w.cell? ⟨b', off' + j, none⟩ = some (.int .u8 (ys.getD j 0))) := hc'
        have HL : Hid (xs.length = n) := hl
        have HL' : Hid (ys.length = n) := hl'
        clear hc hby hl hc' hby' hl'
        go_enter Tryz.func28, Tryz.ntmps28
        go_wp2
        go_loopw [5] (fun i wr => ∃ k : Nat, k ≤ n ∧ i = .int .i64 k ∧ xs.take k = ys.take k ∧ ∃ nd, wr = w.drewN nd) (fun i _ => n - (intOf i).toNat)
        case atStart => exact ⟨0, Nat.zero_le _, rfl, by simp, 0, rfl⟩
        case round =>
          obtain ⟨k, hk, rfl, htk, nd, hwr⟩ := hrel
          have HT : Hid (xs.take k = ys.take k) := htk
          clear htk
          subst hwr
          by_cases hlt : k < n
          · obtain ⟨c, HX⟩ : ∃ c, Hid (c = xs.getD k 0) := ⟨_, rfl⟩
            obtain ⟨c', HY⟩ : ∃ c, Hid (c = ys.getD k 0) := ⟨_, rfl⟩
            have hck : w.cell? ⟨b, off + k, none⟩ = some (.int .u8 c) := by rw [HX.out]; exact HC.out k hlt
            have hck' : w.cell? ⟨b', off' + k, none⟩ = some (.int .u8 c') := by rw [HY.out]; exact HC'.out k hlt
            have hki : (k : Int) < (n : Int) := by omega
            by_cases hcc : c = c'
            · have HF : Hid (xs.take (k + 1) = ys.take (k + 1)) := take_eq_succ (by rw [HL.out]; omega) (by rw [HL'.out]; omega) HT.out (by rw [← HX.out, ← HY.out]; exact hcc)
              have hb1 : (c != c') = false := by simp [hcc]
              clear hcc
              go_wp2
              go_quiet (fail)
              go_wp2
              go_roundw
              case rel => exact ⟨k + 1, by omega, by go_num, HF.out, nd + nq, by first | rfl | exact drew_add _ _ _⟩
              case measure => simp [intOf]; omega
            · have HF : Hid (decide (xs = ys) = false) := by unfold Hid; rw [decide_eq_false_iff_not]; intro e; apply hcc; rw [HX.out, HY.out, e]
              have hb1 : (c != c') = true := by simp [hcc]
              clear hcc
              go_wp2
              go_quiet (fail)
              go_wp2
              go_ret
              exact ⟨rb HF.out.symm, nd + nq, by first | rfl | exact drew_add _ _ _⟩
          · have HF : Hid (decide (xs = ys) = true) := by
              have e1 : xs.take k = xs := List.take_of_length_le (by rw [HL.out]; omega)
              have e2 : ys.take k = ys := List.take_of_length_le (by rw [HL'.out]; omega)
              unfold Hid; rw [decide_eq_true_iff, ← e1, ← e2]; exact HT.out
            go_wp2
            go_ret
            exact ⟨rb HF.out.symm, nd, rfl⟩
  · have HF : Hid (decide (xs = ys) = false) := by unfold Hid; rw [decide_eq_false_iff_not]; intro e; rw [e] at hl; omega
    have hb1 : ((n : Int) != (n' : Int)) = true := by simp; omega
    clear hby hby' hc hc' hl hl' hne
    go_enter Tryz.func28, Tryz.ntmps28
    go_wp2
    go_ret
    exact ⟨rb HF.out.symm, 0, rfl⟩

/-! ### marking -/

/-- The cells of a slice of bytes. -/
def leafB (b off n : Nat) : List (Addr × IntKind) := (List.range n).map (fun j => (⟨b, off + j, none⟩, .u8))

theorem leafB_succ (b off n : Nat) : leafB b off (n + 1) = leafB b off n ++ [(⟨b, off + n, none⟩, .u8)] := by simp [leafB, List.range_succ]
theorem leafB_length (b off n : Nat) : (leafB b off n).length = n := by simp [leafB]

set_option maxHeartbeats 400000 in
theorem markByteS_any (a : Option Addr) (n cap : Nat) (k : Int) (w : World) (b off : Nat) (ha : n = 0 ∨ a = some ⟨b, off, none⟩) (hL : LeafOk w (leafB b off n)) (hn : n ≤ 1048576) (hk : 0 ≤ k ∧ k ≤ 1073741824) :
    Calls Tryz.prog 29 #[.slice a n cap, .int .i64 k] w fun e w' => e = .returned (.int .i64 (k + n)) ∧ w' = marks w (leafB b off n) k := by
  obtain ⟨hk0, hk1⟩ := hk
  rcases ha with h0 | rfl
  · subst h0
    clear hL
    go_enter Tryz.func29, Tryz.ntmps29
    go_wp2
    refine wp_loop_rounds 1 ?_
    rw [rounds_succ]
    go_wp2
    go_ret
    exact ⟨ri (by simp), rfl⟩
  · have HL : Hid (LeafOk w (leafB b off n)) := hL
    clear hL
    go_enter Tryz.func29, Tryz.ntmps29
    go_wp2
    go_loopw [1, 5] (fun q i wr => ∃ j : Nat, j ≤ n ∧ i = .int .i64 j ∧ q = .int .i64 (k + j) ∧ wr = marks w (leafB b off j) k) (fun _ i _ => n - (intOf i).toNat)
    case atStart => exact ⟨0, Nat.zero_le _, rfl, by simp, rfl⟩
    case round =>
      obtain ⟨j, hj, rfl, rfl, hwr⟩ := hrel
      by_cases hlt : j < n
      · have hsub : ∀ x ∈ leafB b off j, x ∈ leafB b off n := by
          intro x hx; simp only [leafB, List.mem_map, List.mem_range] at hx ⊢; obtain ⟨i, hi, e⟩ := hx; exact ⟨i, by omega, e⟩
        have hLj : LeafOk w (leafB b off j) := fun x hx => HL.out x (hsub x hx)
        have hmem : ((⟨b, off + j, none⟩ : Addr), IntKind.u8) ∈ leafB b off n := by simp only [leafB, List.mem_map, List.mem_range]; exact ⟨j, hlt, rfl⟩
        have hOk := (hLj.marks HL.out k).1 _ hmem
        rw [← hwr] at hOk
        obtain ⟨⟨m, hm⟩, hf⟩ := hOk
        have HW : Hid (wr.setCell ⟨b, off + j, none⟩ (.int .u8 (IntKind.u8.wrap (k + j))) = marks w (leafB b off (j + 1)) k) := by
          unfold Hid; rw [leafB_succ, marks_append, ← hwr, leafB_length]; rfl
        clear hsub hLj hmem hwr
        go_wp2
        go_roundw
        case rel => exact ⟨j + 1, by omega, by go_num, by go_num, HW.out⟩
        case measure => simp [intOf]; omega
      · have hjn : j = n := by omega
        have HW : Hid (wr = marks w (leafB b off n) k) := by rw [← hjn]; exact hwr
        have HE : Hid (k + (j : Int) = k + n) := by unfold Hid; omega
        clear hwr hjn
        go_wp2
        go_ret
        exact ⟨ri HE.out, HW.out⟩

set_option maxHeartbeats 400000 in
theorem heldByteS_any (a : Option Addr) (n cap : Nat) (k : Int) (w : World) (b off : Nat) (ha : n = 0 ∨ a = some ⟨b, off, none⟩) (hc : ∀ j, j < n → w.cell? ⟨b, off + j, none⟩ = some (.int .u8 (IntKind.u8.wrap (k + j)))) (hn : n ≤ 1048576) (hk : 0 ≤ k ∧ k ≤ 1073741824) :
    Calls Tryz.prog 114 #[.slice a n cap, .int .i64 k] w fun e w' => e = .returned (.int .i64 (k + n)) ∧ w' = w := by
  obtain ⟨hk0, hk1⟩ := hk
  rcases ha with h0 | rfl
  · subst h0
    clear hc
    go_enter Tryz.func114, Tryz.ntmps114
    go_wp2
    refine wp_loop_rounds 1 ?_
    rw [rounds_succ]
    go_wp2
    go_ret
    exact ⟨ri (by simp), rfl⟩
  · have HC : Hid (∀ j, j < n → w.cell? ⟨b, off + j, none⟩ = some (.int .u8 (IntKind.u8.wrap (k + j)))) := hc
    clear hc
    go_enter Tryz.func114, Tryz.ntmps114
    go_wp2
    go_loop [1, 5] (fun q i => ∃ j : Nat, j ≤ n ∧ i = .int .i64 j ∧ q = .int .i64 (k + j)) (fun _ i => n - (intOf i).toNat)
    case atStart => exact ⟨0, Nat.zero_le _, rfl, by simp⟩
    case round =>
      obtain ⟨j, hj, rfl, rfl⟩ := hrel
      by_cases hlt : j < n
      · have hm := HC.out j hlt
        go_wp2
        go_round
        case rel => exact ⟨j + 1, by omega, by go_num, by go_num⟩
        case measure => simp [intOf]; omega
      · have HE : Hid (k + (j : Int) = k + n) := by unfold Hid; omega
        go_wp2
        go_ret
        exact ⟨ri HE.out, rfl⟩

theorem held_leafB {w : World} {b off : Nat} {k : Int} : ∀ {n : Nat}, Held w (leafB b off n) k → ∀ j, j < n → w.cell? ⟨b, off + j, none⟩ = some (.int .u8 (IntKind.u8.wrap (k + j))) := by
  intro n
  induction n with
  | zero => intro _ j hj; omega
  | succ n ih =>
    intro h j hj
    rw [leafB_succ, held_append, leafB_length] at h
    by_cases e : j = n
    · subst e; exact h.2.1
    · exact ih h.1 j (by omega)
end

section
open Go.RowKit

theorem conv_any {a : Option Addr} {n cap : Nat} {zs : List Int} {w : World} {lo hi : Nat} (h : Rd lo hi w a n cap zs) : (convert 22 9 (.slice a n cap)).run Tryz.prog w = .ok (.string (strOfNums zs)) w := by
  obtain ⟨hl, _, _, hc⟩ := h
  rcases hc with h0 | ⟨b, off, rfl, hlo, hb, hc⟩
  · subst h0
    have hz : zs = [] := List.eq_nil_of_length_eq_zero hl
    subst hz
    rw [run_convert_bytes_string w 22 9 5 _ 0 cap Tryz.underlying22 Tryz.underlying5 Tryz.underlying9]
    cases a <;> simp [Conv.bytesToString, loadCells]
    all_goals rfl
  · exact run_convert_bytes_arg w 22 5 Tryz.underlying22 Tryz.underlying5 b off n cap zs hl hc 9 Tryz.underlying9
end

section
open Go.RowKit

/-- A block of four cells, none frozen. -/
def Blk (w : World) (g : Nat) (t : TypeId) (x0 x1 x2 x3 : Value) : Prop := w.heap[g]? = some (.cells #[x0, x1, x2, x3] t (0, 0))

theorem Blk.cells {w : World} {g : Nat} {t : TypeId} {x0 x1 x2 x3 : Value} (h : Blk w g t x0 x1 x2 x3) :
    w.cell? ⟨g, 0, none⟩ = some x0 ∧ w.cell? ⟨g, 1, none⟩ = some x1 ∧ w.cell? ⟨g, 2, none⟩ = some x2 ∧ w.cell? ⟨g, 3, none⟩ = some x3 ∧ ∀ o, w.frozen? ⟨g, o, none⟩ = false := by
  unfold Blk at h
  refine ⟨by simp [World.cell?, h], by simp [World.cell?, h], by simp [World.cell?, h], by simp [World.cell?, h], fun o => by simp [World.frozen?, h]⟩

theorem Blk.lt {w : World} {g : Nat} {t : TypeId} {x0 x1 x2 x3 : Value} (h : Blk w g t x0 x1 x2 x3) : g < w.heap.size := (Array.getElem?_eq_some_iff.1 h).1
theorem Blk.of_block {w w' : World} {g : Nat} {t : TypeId} {x0 x1 x2 x3 : Value} (h : Blk w g t x0 x1 x2 x3) (e : w'.heap[g]? = w.heap[g]?) : Blk w' g t x0 x1 x2 x3 := e.trans h
theorem Blk.below {w w' : World} {B g : Nat} {t : TypeId} {x0 x1 x2 x3 : Value} (h : Blk w g t x0 x1 x2 x3) (hb : Below B w w') (hg : g < B) : Blk w' g t x0 x1 x2 x3 := h.of_block (hb.block g hg)
theorem Blk.alloc {w : World} {g : Nat} {t : TypeId} {x0 x1 x2 x3 : Value} (h : Blk w g t x0 x1 x2 x3) (o : Obj) : Blk (w.alloc o) g t x0 x1 x2 x3 := h.of_block (Below.heap_alloc _ _ _ h.lt)
theorem Blk.set {w : World} {g : Nat} {t : TypeId} {x0 x1 x2 x3 : Value} (h : Blk w g t x0 x1 x2 x3) (j : Nat) (v : Value) : (w.setCell ⟨g, j, none⟩ v).heap[g]? = some (.cells (#[x0, x1, x2, x3].setIfInBounds j v) t (0, 0)) := by
  unfold Blk at h
  simp [World.setCell, Array.getElem?_modify, h]
theorem Blk.set1 {w : World} {g : Nat} {t : TypeId} {x0 x1 x2 x3 : Value} (h : Blk w g t x0 x1 x2 x3) (v : Value) : Blk (w.setCell ⟨g, 1, none⟩ v) g t x0 v x2 x3 := h.set 1 v
theorem Blk.set2 {w : World} {g : Nat} {t : TypeId} {x0 x1 x2 x3 : Value} (h : Blk w g t x0 x1 x2 x3) (v : Value) : Blk (w.setCell ⟨g, 2, none⟩ v) g t x0 x1 v x3 := h.set 2 v
theorem Blk.set3 {w : World} {g : Nat} {t : TypeId} {x0 x1 x2 x3 : Value} (h : Blk w g t x0 x1 x2 x3) (v : Value) : Blk (w.setCell ⟨g, 3, none⟩ v) g t x0 x1 x2 v := h.set 3 v

theorem RdC.shape {lo hi : Nat} {w : World} {d : Nat} {v : Value} {c : CN} (h : RdC lo hi w d v c) : ∃ k na nn nc ra rn rc ka kn kc, v = .agg #[.int .i64 k, .slice na nn nc, .slice ra rn rc, .slice ka kn kc] := by
  cases d with
  | zero => exact h.elim
  | succ d =>
    obtain ⟨na, nn, nc, ra, rn, rc, ka, kn, kc, hv, _⟩ := h
    exact ⟨_, na, nn, nc, ra, rn, rc, ka, kn, kc, hv⟩
end

section
open Go.RowKit Go.Deep Go.ChangeShapes Go.WideShapes
end

section
open Go.RowKit Go.Deep Go.ChangeShapes Go.WideShapes
end

section
open Go.RowKit
end

section
open Go.RowKit
end

section
open Go.RowKit

def EqC (d : Nat) : Prop := ∀ (v v' : Value) (c : CN) (d' : Nat) (w : World) (lo hi lo' hi' : Nat), RdC lo hi w d v c → RdC lo' hi' w d' v' c → hi ≤ w.heap.size → hi' ≤ w.heap.size →
  Calls Tryz.prog 147 #[v, v'] w fun e w' => e = .returned (.bool true) ∧ Below w.heap.size w w'

def EqL (d : Nat) : Prop := ∀ (a a' : Option Addr) (n cap cap' : Nat) (cs : List CN) (d' : Nat) (w : World) (lo hi lo' hi' : Nat), RdL (RdC lo hi w d) lo hi w a n cap cs → RdL (RdC lo' hi' w d') lo' hi' w a' n cap' cs → hi ≤ w.heap.size → hi' ≤ w.heap.size →
  Calls Tryz.prog 162 #[.slice a n cap, .slice a' n cap'] w fun e w' => e = .returned (.bool true) ∧ Below w.heap.size w w'

set_option maxHeartbeats 800000 in
theorem eqL_of {d : Nat} (H : EqC d) : EqL d := by
  intro a a' n cap cap' cs d' w lo hi lo' hi' h h' hh hh'
  have HR : Hid (RdL (RdC lo hi w d) lo hi w a n cap cs) := h
  have HR' : Hid (RdL (RdC lo' hi' w d') lo' hi' w a' n cap' cs) := h'
  obtain ⟨hl, ⟨hm, hM⟩, hcs⟩ := h
  obtain ⟨hl', ⟨hm', hM'⟩, hcs'⟩ := h'
  have hb0 : ((n : Int) != (n : Int)) = false := by simp
  clear hcs hcs' hl hl'
  go_enter Tryz.func162, Tryz.ntmps162
  go_wp2_with fail
  go_loopw [5] (fun i wr => ∃ k : Nat, k ≤ n ∧ i = .int .i64 k ∧ Below w.heap.size w wr) (fun i _ => n - (intOf i).toNat)
  case atStart => exact ⟨0, Nat.zero_le _, rfl, Below.refl _ _⟩
  case round =>
    obtain ⟨k, hk, rfl, hbel⟩ := hrel
    have HB : Hid (Below w.heap.size w wr) := hbel
    by_cases hlt : k < n
    · have h1 := HR.out.same (Same.of_below hbel hh)
      have h2 := HR'.out.same (Same.of_below hbel hh')
      rcases h1.cells with h0 | ⟨b1, off1, e1, _, _, hc1⟩
      · omega
      · rcases h2.cells with h0 | ⟨b2, off2, e2, _, _, hc2⟩
        · omega
        · subst e1 e2
          obtain ⟨v0, v1, v2, v3, c0, c1, c2, c3, hr⟩ := hc1 k hlt
          obtain ⟨x0, x1, x2, x3, q0, q1, q2, q3, hr'⟩ := hc2 k hlt
          have HK : Hid (RdC lo hi wr.drew d (.agg #[v0, v1, v2, v3]) (cs.getD k CN.zero)) := RdC.same (w := wr) (w' := wr.drew) (fun _ _ _ => rfl) hr
          have HK' : Hid (RdC lo' hi' wr.drew d' (.agg #[x0, x1, x2, x3]) (cs.getD k CN.zero)) := RdC.same (w := wr) (w' := wr.drew) (fun _ _ _ => rfl) hr'
          have hki : (k : Int) < (n : Int) := by omega
          clear h1 h2 hc1 hc2 hr hr' hbel
          go_wp2_with fail
          go_region_with (go_at_call 147; refine (H _ _ (cs.getD k CN.zero) d' _ lo hi lo' hi' ?_ ?_ ?_ ?_).mono ?_; exact HK.out; exact HK'.out; exact Nat.le_trans hh HB.out.size; exact Nat.le_trans hh' HB.out.size; rintro e w' ⟨rfl, hbe⟩)
          all_goals
            go_wp2_with fail
            go_roundw
            case rel => exact ⟨k + 1, by omega, by go_num, HB.out.drew.trans (hbe.mono HB.out.size)⟩
            case measure => simp [intOf]; omega
    · clear hbel
      go_wp2_with fail
      go_ret
      exact ⟨rfl, HB.out⟩

set_option maxHeartbeats 800000 in
theorem eqC_of {d : Nat} (H : EqL d) : EqC (d + 1) := by
  intro v v' c d' w lo hi lo' hi' h h' hh hh'
  cases d' with
  | zero => exact h'.elim
  | succ d' =>
    obtain ⟨na, nn, nc, ra, rn, rc, ka, kn, kc, rfl, hn, hr, hk⟩ := h
    obtain ⟨na', nn', nc', ra', rn', rc', ka', kn', kc', rfl, hn', hr', hk'⟩ := h'
    obtain ⟨k, hkd⟩ : ∃ k, k = c.kind := ⟨_, rfl⟩
    rw [← hkd]
    have hkk : (k != k) = false := by simp
    have e1 : nn' = nn := by rw [← hn.len, ← hn'.len]
    have e2 : rn' = rn := by rw [← hr.len, ← hr'.len]
    have e3 : kn' = kn := by rw [← hk.len, ← hk'.len]
    subst e1 e2 e3
    have hb : Below w.heap.size w ((w.alloc (Obj.cells #[Value.int IntKind.i64 k, .slice na nn' nc, .slice ra rn' rc, .slice ka kn' kc] 37)).alloc (Obj.cells #[Value.int IntKind.i64 k, .slice na' nn' nc', .slice ra' rn' rc', .slice ka' kn' kc'] 37)) := ((Below.refl _ _).alloc (Nat.le_refl _) _).alloc (by simp) _
    obtain ⟨W, hW⟩ : ∃ W, W = ((w.alloc (Obj.cells #[Value.int IntKind.i64 k, .slice na nn' nc, .slice ra rn' rc, .slice ka kn' kc] 37)).alloc (Obj.cells #[Value.int IntKind.i64 k, .slice na' nn' nc', .slice ra' rn' rc', .slice ka' kn' kc'] 37)) := ⟨_, rfl⟩
    rw [← hW] at hb
    have HW : Hid (W = ((w.alloc (Obj.cells #[Value.int IntKind.i64 k, .slice na nn' nc, .slice ra rn' rc, .slice ka kn' kc] 37)).alloc (Obj.cells #[Value.int IntKind.i64 k, .slice na' nn' nc', .slice ra' rn' rc', .slice ka' kn' kc'] 37))) := hW
    have HN : Hid (Rd lo hi W na nn' nc c.name ∧ Rd lo' hi' W na' nn' nc' c.name) := ⟨hn.below hb hh, hn'.below hb hh'⟩
    have HRo : Hid (Rd lo hi W ra rn' rc c.role ∧ Rd lo' hi' W ra' rn' rc' c.role) := ⟨hr.below hb hh, hr'.below hb hh'⟩
    have HK : Hid (RdL (RdC lo hi W d) lo hi W ka kn' kc c.kids ∧ RdL (RdC lo' hi' W d') lo' hi' W ka' kn' kc' c.kids) := ⟨hk.below hb hh, hk'.below hb hh'⟩
    have HBW : Hid (Below w.heap.size w W) := hb
    clear hn hn' hr hr' hk hk' hb hkd hW
    go_enter Tryz.func147, Tryz.ntmps147
    go_wp2_with fail
    rw [← HW.out]
    refine (eqByteS_any na na' nn' nc nn' nc' c.name c.name W HN.out.1 HN.out.2).mono ?_
    rintro e w1 ⟨rfl, n1, hw1⟩
    rw [show decide (c.name = c.name) = true from by simp, hw1, HW.out]
    clear hw1
    go_wp2_with fail
    rw [← HW.out]
    refine (eqByteS_any ra ra' rn' rc rn' rc' c.role c.role _ (HRo.out.1.same (w' := W.drewN n1) (fun _ _ _ => rfl)) (HRo.out.2.same (w' := W.drewN n1) (fun _ _ _ => rfl))).mono ?_
    rintro e w2 ⟨rfl, n2, hw2⟩
    rw [show decide (c.role = c.role) = true from by simp, hw2, drew_add, HW.out]
    clear hw2
    go_wp2_with fail
    rw [← HW.out]
    refine (H ka ka' kn' kc kc' c.kids d' (W.drewN (n1 + n2)) lo hi lo' hi' (RdL.same (w := W) HK.out.1 (fun _ _ _ => rfl)) (RdL.same (w := W) HK.out.2 (fun _ _ _ => rfl)) (Nat.le_trans hh HBW.out.size) (Nat.le_trans hh' HBW.out.size)).mono ?_
    rintro e w3 ⟨rfl, hb3⟩
    have HB3 : Hid (Below w.heap.size w w3) := (below_drewN HBW.out (n1 + n2)).trans (hb3.mono HBW.out.size)
    clear hb3
    go_wp2_with fail
    go_ret
    exact ⟨rfl, HB3.out⟩

theorem eqC_any : ∀ d, EqC d
  | 0 => fun _ _ _ _ _ _ _ _ _ h => h.elim
  | d + 1 => eqC_of (eqL_of (eqC_any d))
end

end Go.Proofs.YtckhjoancfbkfaaGreat
