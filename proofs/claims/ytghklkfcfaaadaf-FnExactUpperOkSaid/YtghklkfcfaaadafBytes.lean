/- What a slice of bytes reads as; the laws' own copy of one and their comparison of two: a contract each, for every list of bytes of at most 2^20. -/
import Derived.Test.YtghklkfcfaaadafRows
import Derived.WalkKit
import Derived.WalkSpells
import Derived.WalkLawsBesides
import Derived.Deep.QuietTactic
import Derived.BigQuiet
import Derived.Deep.OwnRows
namespace Go.Proofs.Ytghklkfcfaaadaf
open Go.RowKit

theorem rb {a b : Bool} (h : a = b) : Ending.returned (.bool a) = .returned (.bool b) := by rw [h]

/-- A slice's value reads as these bytes: it is empty, or leads to a row of cells that hold them. -/
structure Rd (w : World) (a : Option Addr) (n cap : Nat) (zs : List Int) : Prop where
  len : zs.length = n
  fits : n ≤ cap ∧ cap ≤ 9223372036854775807
  byte : ∀ i, 0 ≤ zs.getD i 0 ∧ zs.getD i 0 ≤ 255
  cells : n = 0 ∨ ∃ b off, a = some ⟨b, off, none⟩ ∧ b < w.heap.size ∧ ∀ i, i < n → w.cell? ⟨b, off + i, none⟩ = some (.int .u8 (zs.getD i 0))

theorem Rd.tail {w : World} {b off n cap : Nat} {zs : List Int} (h : Rd w (some ⟨b, off, none⟩) n cap zs) (hn : 1 ≤ n) : Rd w (some ⟨b, off + 1, none⟩) (n - 1) (cap - 1) (zs.drop 1) := by
  obtain ⟨hl, ⟨hn, hm⟩, hby, hc⟩ := h
  refine ⟨by simp [hl], by omega, fun i => ?_, ?_⟩
  · have := hby (i + 1); simpa [List.getD] using this
  · rcases hc with h0 | ⟨b, off, e, hb, hc⟩
    · exact .inl (by omega)
    · simp at e
      obtain ⟨rfl, rfl⟩ := e
      refine .inr ⟨_, _, rfl, hb, fun i hi => ?_⟩
      have := hc (i + 1) (by omega)
      rw [Nat.add_right_comm, Nat.add_assoc]
      simpa [List.getD] using this

theorem Rd.none_of {w : World} {a : Option Addr} {cap : Nat} (h : cap ≤ 9223372036854775807) : Rd w a 0 cap [] := ⟨rfl, ⟨Nat.zero_le _, h⟩, by simp, .inl rfl⟩


theorem Rd.below {w w' : World} {B : Nat} {a : Option Addr} {n cap : Nat} {zs : List Int} (h : Rd w a n cap zs) (hb : Below B w w') (hB : w.heap.size ≤ B) : Rd w' a n cap zs := by
  obtain ⟨hl, hm, hby, hc⟩ := h
  refine ⟨hl, hm, hby, ?_⟩
  rcases hc with h0 | ⟨b, off, e, hlt, hc⟩
  · exact .inl h0
  · exact .inr ⟨b, off, e, Nat.lt_of_lt_of_le hlt hb.size, fun i hi => (hb.cell (p := ⟨b, off + i, none⟩) (Nat.lt_of_lt_of_le hlt hB)).trans (hc i hi)⟩

/-- A row of the call's own that holds these bytes. -/
def Row (w : World) (g : Nat) (zs : List Int) : Prop := w.rowIs g 5 zs.length (fun i => .int .u8 (zs.getD i 0))

theorem Row.rd {w : World} {g n : Nat} {zs : List Int} (h : Row w g zs) (hl : zs.length = n) (hby : ∀ i, 0 ≤ zs.getD i 0 ∧ zs.getD i 0 ≤ 255) (hn : n ≤ 9223372036854775807) : Rd w (some ⟨g, 0, none⟩) n n zs := by
  refine ⟨hl, ⟨Nat.le_refl _, hn⟩, hby, .inr ⟨g, 0, rfl, World.rowIs.lt h, fun i hi => ?_⟩⟩
  rw [Nat.zero_add]
  exact World.rowIs.cell h (by omega)

theorem Row.below {w w' : World} {B g : Nat} {zs : List Int} (h : Row w g zs) (hb : Below B w w') (hg : g < B) : Row w' g zs := World.rowIs.of_block h (hb.block g hg)

theorem Try.info5 : (Try.prog.info? 5).map (fun i => (i.zero, i.size, i.bytes)) = some (some (.int .u8 0), 1, 1) := by kernel_rfl

def part (zs : List Int) (k : Nat) (i : Nat) : Value := .int .u8 (if i < k then zs.getD i 0 else 0)

theorem row_step {w : World} {g n : Nat} {zs : List Int} {k : Nat} (h : w.rowIs g 5 n (part zs k)) : (w.setCell ⟨g, k, none⟩ (.int .u8 (zs.getD k 0))).rowIs g 5 n (part zs (k + 1)) := by
  refine (h.set k _).congr fun i _ => ?_
  unfold part
  by_cases e : i = k
  · subst e; simp
  · rw [if_neg e]
    congr 1
    by_cases h1 : i < k
    · rw [if_pos h1, if_pos (by omega)]
    · rw [if_neg h1, if_neg (by omega)]

set_option maxHeartbeats 400000 in
theorem toByteS_any (a : Option Addr) (n cap : Nat) (zs : List Int) (w : World) (h : Rd w a n cap zs) (hn : n ≤ 1048576) :
    Calls Try.prog 7 #[.slice a n cap] w fun e w' => e = .returned (.slice (some ⟨w.heap.size, 0, none⟩) n n) ∧ Row w' w.heap.size zs ∧ Below w.heap.size w w' := by
  obtain ⟨hl, ⟨hm, _⟩, hby, hc⟩ := h
  have hmk := fun w : World => run_make_row' (P := Try.prog) 22 5 (.int .u8 0) 1 Try.underlying22 Try.info5 rfl .i64 .i64 n (by omega) (by omega) w
  rcases hc with h0 | ⟨b, off, rfl, hb, hc⟩
  · subst h0
    have hz : zs = [] := List.eq_nil_of_length_eq_zero hl
    have HR : Hid (Row (w.alloc (.cells (madeCells #[.int .u8 0] 0) 5)) w.heap.size zs) := by
      unfold Hid Row; rw [hl]; exact (World.rowIs_made w (.int .u8 0) 0 5).congr (fun i hi => by omega)
    have hmk0 : ∀ w : World, (Instr.makeSlice 22 (.int .i64 0) (.int .i64 0)).run Try.prog w = .ok (.slice (some ⟨w.heap.size, 0, none⟩) 0 0) (w.alloc (.cells (madeCells #[.int .u8 0] 0) 5)) := fun w => hmk w
    clear hby hmk
    go_enter Try.func7, Try.ntmps7
    go_wp2
    refine wp_loop_rounds 1 ?_
    rw [rounds_succ]
    go_wp2
    go_ret
    exact ⟨rfl, HR.out, (Below.refl _ _).alloc (Nat.le_refl _) _⟩
  · have HCell : Hid (∀ j, j < n → w.cell? ⟨b, off + j, none⟩ = some (.int .u8 (zs.getD j 0))) := hc
    have HL : Hid (zs.length = n) := hl
    have h0 : Hid ((w.alloc (.cells (madeCells #[.int .u8 0] n) 5)).rowIs w.heap.size 5 n (part zs 0)) := (World.rowIs_made w (.int .u8 0) n 5).congr (fun i _ => by simp [part])
    clear hc hby hl
    go_enter Try.func7, Try.ntmps7
    go_wp2
    go_loopw [4] (fun i wr => ∃ k : Nat, k ≤ n ∧ i = .int .i64 k ∧ wr.rowIs w.heap.size 5 n (part zs k) ∧ Below w.heap.size w wr) (fun i _ => n - (intOf i).toNat)
    case atStart => exact ⟨0, Nat.zero_le _, rfl, h0.out, (Below.refl _ _).alloc (Nat.le_refl _) _⟩
    case round =>
      obtain ⟨k, hk, rfl, hrow, hbel⟩ := hrel
      by_cases hlt : k < n
      · obtain ⟨c, HC⟩ : ∃ c, Hid (c = zs.getD k 0) := ⟨_, rfl⟩
        have hck : wr.cell? ⟨b, off + k, none⟩ = some (.int .u8 c) := by rw [hbel.cell (p := ⟨b, off + k, none⟩) hb, HC.out]; exact HCell.out k hlt
        have hfz := hrow.frozen k
        have hold : wr.cell? ⟨w.heap.size, k, none⟩ = some (.int .u8 0) := by have := hrow.cell hlt; simpa [part] using this
        have HR : Hid ((wr.setCell ⟨w.heap.size, k, none⟩ (.int .u8 c)).rowIs w.heap.size 5 n (part zs (k + 1))) := by unfold Hid; rw [HC.out]; exact row_step hrow
        have HB : Hid (Below w.heap.size w (wr.setCell ⟨w.heap.size, k, none⟩ (.int .u8 c))) := hbel.setCell (Nat.le_refl _) _
        clear hrow hbel
        go_wp2
        go_roundw
        case rel => exact ⟨k + 1, by omega, by go_num, HR.out, HB.out⟩
        case measure => simp [intOf]; omega
      · have hkn : k = n := by omega
        have HR : Hid (Row wr w.heap.size zs) := by
          unfold Hid Row; rw [HL.out]; exact hrow.congr (fun i hi => by simp [part, hkn, hi])
        have HB : Hid (Below w.heap.size w wr) := hbel
        clear hrow hbel hkn
        go_wp2
        go_ret
        exact ⟨rfl, HR.out, HB.out⟩

theorem drew_add (w : World) (m n : Nat) : (w.drewN m).drewN n = w.drewN (m + n) := by
  induction n with
  | zero => rfl
  | succ n ih => show ((w.drewN m).drewN n).drew = _; rw [ih]; rfl

theorem take_eq_succ {xs ys : List Int} {k : Nat} (hx : k < xs.length) (hy : k < ys.length) (h : xs.take k = ys.take k) (e : xs.getD k 0 = ys.getD k 0) : xs.take (k + 1) = ys.take (k + 1) := by
  rw [List.take_succ_eq_append_getElem hx, List.take_succ_eq_append_getElem hy, h]
  simp [List.getD, hx, hy] at e
  rw [e]

set_option maxHeartbeats 400000 in
theorem eqByteS_any (a a' : Option Addr) (n cap n' cap' : Nat) (xs ys : List Int) (w : World) (h : Rd w a n cap xs) (h' : Rd w a' n' cap' ys) :
    Calls Try.prog 9 #[.slice a n cap, .slice a' n' cap'] w fun e w' => e = .returned (.bool (decide (xs = ys))) ∧ ∃ nd, w' = w.drewN nd := by
  obtain ⟨hl, ⟨hm, hM⟩, hby, hc⟩ := h
  obtain ⟨hl', ⟨hm', hM'⟩, hby', hc'⟩ := h'
  by_cases hne : n = n'
  · subst hne
    have hb0 : ((n : Int) != (n : Int)) = false := by simp
    rcases hc with h0 | ⟨b, off, rfl, hb, hc⟩
    · subst h0
      have hx : xs = [] := List.eq_nil_of_length_eq_zero hl
      have hy : ys = [] := List.eq_nil_of_length_eq_zero hl'
      have HF : Hid (decide (xs = ys) = true) := by simp [Hid, hx, hy]
      clear hx hy hby hby' hc' hl hl'
      go_enter Try.func9, Try.ntmps9
      go_wp2
      refine wp_loop_rounds 1 ?_
      rw [rounds_succ]
      go_wp2
      go_ret
      exact ⟨rb HF.out.symm, 0, rfl⟩
    · rcases hc' with h0 | ⟨b', off', rfl, hb', hc'⟩
      · subst h0
        have hx : xs = [] := List.eq_nil_of_length_eq_zero hl
        have hy : ys = [] := List.eq_nil_of_length_eq_zero hl'
        have HF : Hid (decide (xs = ys) = true) := by simp [Hid, hx, hy]
        clear hx hy hby hby' hc hl hl'
        go_enter Try.func9, Try.ntmps9
        go_wp2
        refine wp_loop_rounds 1 ?_
        rw [rounds_succ]
        go_wp2
        go_ret
        exact ⟨rb HF.out.symm, 0, rfl⟩
      · have HC : Hid (∀ j, j < n → w.cell? ⟨b, off + j, none⟩ = some (.int .u8 (xs.getD j 0))) := hc
        have HC' : Hid (∀ j, j < n → w.cell? ⟨b', off' + j, none⟩ = some (.int .u8 (ys.getD j 0))) := hc'
        have HL : Hid (xs.length = n) := hl
        have HL' : Hid (ys.length = n) := hl'
        clear hc hby hl hc' hby' hl'
        go_enter Try.func9, Try.ntmps9
        go_wp2
        go_loopw [5] (fun i wr => ∃ k : Nat, k ≤ n ∧ i = .int .i64 k ∧ xs.take k = ys.take k ∧ ∃ nd, wr = w.drewN nd) (fun i _ => n - (intOf i).toNat)
        case atStart => exact ⟨0, Nat.zero_le _, rfl, by simp, 0, rfl⟩
        case round =>
          obtain ⟨k, hk, rfl, htk, nd, hwr⟩ := hrel
          have HT : Hid (xs.take k = ys.take k) := htk
          clear htk
          subst hwr
          by_cases hlt : k < n
          · obtain ⟨c, HX⟩ : ∃ c, Hid (c = xs.getD k 0) := ⟨_, rfl⟩
            obtain ⟨c', HY⟩ : ∃ c, Hid (c = ys.getD k 0) := ⟨_, rfl⟩
            have hck : w.cell? ⟨b, off + k, none⟩ = some (.int .u8 c) := by rw [HX.out]; exact HC.out k hlt
            have hck' : w.cell? ⟨b', off' + k, none⟩ = some (.int .u8 c') := by rw [HY.out]; exact HC'.out k hlt
            have hki : (k : Int) < (n : Int) := by omega
            by_cases hcc : c = c'
            · have HF : Hid (xs.take (k + 1) = ys.take (k + 1)) := take_eq_succ (by rw [HL.out]; omega) (by rw [HL'.out]; omega) HT.out (by rw [← HX.out, ← HY.out]; exact hcc)
              have hb1 : (c != c') = false := by simp [hcc]
              clear hcc
              go_wp2
              go_quiet (fail)
              go_wp2
              go_roundw
              case rel => exact ⟨k + 1, by omega, by go_num, HF.out, nd + nq, by first | rfl | exact drew_add _ _ _⟩
              case measure => simp [intOf]; omega
            · have HF : Hid (decide (xs = ys) = false) := by unfold Hid; rw [decide_eq_false_iff_not]; intro e; apply hcc; rw [HX.out, HY.out, e]
              have hb1 : (c != c') = true := by simp [hcc]
              clear hcc
              go_wp2
              go_quiet (fail)
              go_wp2
              go_ret
              exact ⟨rb HF.out.symm, nd + nq, by first | rfl | exact drew_add _ _ _⟩
          · have HF : Hid (decide (xs = ys) = true) := by
              have e1 : xs.take k = xs := List.take_of_length_le (by rw [HL.out]; omega)
              have e2 : ys.take k = ys := List.take_of_length_le (by rw [HL'.out]; omega)
              unfold Hid; rw [decide_eq_true_iff, ← e1, ← e2]; exact HT.out
            go_wp2
            go_ret
            exact ⟨rb HF.out.symm, nd, rfl⟩
  · have HF : Hid (decide (xs = ys) = false) := by unfold Hid; rw [decide_eq_false_iff_not]; intro e; rw [e] at hl; omega
    have hb1 : ((n : Int) != (n' : Int)) = true := by simp; omega
    clear hby hby' hc hc' hl hl' hne
    go_enter Try.func9, Try.ntmps9
    go_wp2
    go_ret
    exact ⟨rb HF.out.symm, 0, rfl⟩

end Go.Proofs.Ytghklkfcfaaadaf
