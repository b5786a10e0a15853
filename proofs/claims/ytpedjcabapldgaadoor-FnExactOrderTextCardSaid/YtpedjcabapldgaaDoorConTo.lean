/- The laws' own copy of a concept: a contract each, for every depth. -/
import Derived.Test.YtpedjcabapldgaaDoorConMem
import Derived.Test.YtpedjcabapldgaaDoorBytes
namespace Go.Proofs.YtpedjcabapldgaaDoor
open Go.RowKit

/-- As 'toByteS_any', and it lays one block, none of whose cells is frozen. -/
theorem toByteS_one (a : Option Addr) (n cap : Nat) (zs : List Int) (w : World) {lo hi : Nat} (h : Rd lo hi w a n cap zs) (hhi : hi ≤ w.heap.size) (hn : n ≤ 1048576) :
    Calls Tryd.prog 39 #[.slice a n cap] w fun e w' => e = .returned (.slice (some ⟨w.heap.size, 0, none⟩) n n) ∧ Row w' w.heap.size n zs ∧ Below w.heap.size w w' ∧ w'.heap.size = w.heap.size + 1 := by
  obtain ⟨hl, ⟨hm, _⟩, hby, hc⟩ := h
  have hmk := fun w : World => run_make_row' (P := Tryd.prog) 27 5 (.int .u8 0) 1 Tryd.underlying27 Tryd.info5 rfl .i64 .i64 n (by omega) (by omega) w
  have HL : Hid (zs.length = n) := hl
  have HCell : Hid (∀ k, k < n → ∃ b off, a = some ⟨b, off, none⟩ ∧ b < w.heap.size ∧ w.cell? ⟨b, off + k, none⟩ = some (.int .u8 (zs.getD k 0))) := by
    intro k hk
    rcases hc with h0 | ⟨b, off, e, _, hb, hcs⟩
    · omega
    · exact ⟨b, off, e, by omega, hcs k hk⟩
  have h0 : Hid ((w.alloc (.cells (madeCells #[.int .u8 0] n) 5)).rowIs w.heap.size 5 n (part zs 0)) := (World.rowIs_made w (.int .u8 0) n 5).congr (fun i _ => by simp [part])
  clear hc hby hl
  go_enter Tryd.func39, Tryd.ntmps39
  go_wp2
  go_loopw [4] (fun i wr => ∃ k : Nat, k ≤ n ∧ i = .int .i64 k ∧ wr.rowIs w.heap.size 5 n (part zs k) ∧ Below w.heap.size w wr ∧ wr.heap.size = w.heap.size + 1) (fun i _ => n - (intOf i).toNat)
  case atStart => exact ⟨0, Nat.zero_le _, rfl, h0.out, (Below.refl _ _).alloc (Nat.le_refl _) _, by simp⟩
  case round =>
    obtain ⟨k, hk, rfl, hrow, hbel, hsz⟩ := hrel
    by_cases hlt : k < n
    · obtain ⟨b, off, ha, hb, hcell⟩ := HCell.out k hlt
      subst ha
      obtain ⟨c, HC⟩ : ∃ c, Hid (c = zs.getD k 0) := ⟨_, rfl⟩
      have hck : wr.cell? ⟨b, off + k, none⟩ = some (.int .u8 c) := by rw [hbel.cell (p := ⟨b, off + k, none⟩) (by show b < _; omega), HC.out]; exact hcell
      have hfz := hrow.frozen k
      have hold : wr.cell? ⟨w.heap.size, k, none⟩ = some (.int .u8 0) := by have := hrow.cell hlt; simpa [part] using this
      have HR : Hid ((wr.setCell ⟨w.heap.size, k, none⟩ (.int .u8 c)).rowIs w.heap.size 5 n (part zs (k + 1))) := by unfold Hid; rw [HC.out]; exact row_step hrow
      have HB : Hid (Below w.heap.size w (wr.setCell ⟨w.heap.size, k, none⟩ (.int .u8 c)) ∧ (wr.setCell ⟨w.heap.size, k, none⟩ (.int .u8 c)).heap.size = w.heap.size + 1) := ⟨hbel.setCell (Nat.le_refl _) _, by simp [hsz]⟩
      clear hrow hbel hsz hcell
      go_wp2
      go_roundw
      case rel => exact ⟨k + 1, by omega, by go_num, HR.out, HB.out.1, HB.out.2⟩
      case measure => simp [intOf]; omega
    · have hkn : k = n := by omega
      have HR : Hid (Row wr w.heap.size n zs) := by
        have e := Row.of_rowIs (w := wr) (g := w.heap.size) (zs := zs) (by rw [HL.out]; exact hrow.congr (fun i hi => by simp [part, hkn, hi]))
        rw [HL.out] at e; exact e
      have HB : Hid (Below w.heap.size w wr ∧ wr.heap.size = w.heap.size + 1) := ⟨hbel, hsz⟩
      clear hrow hbel hkn hsz
      go_wp2
      go_ret
      exact ⟨rfl, HR.out, HB.out.1, HB.out.2⟩

theorem free_row {w : World} {g cap : Nat} {zs : List Int} (h : Row w g cap zs) (hs : w.heap.size = g + 1) : Free g w.heap.size w := by
  intro b h1 h2 o
  have e : b = g := by omega
  subst e
  exact h.frozen o

/-- A block of four cells, none frozen. -/
def Blk (w : World) (g : Nat) (t : TypeId) (x0 x1 x2 x3 : Value) : Prop := w.heap[g]? = some (.cells #[x0, x1, x2, x3] t (0, 0))

theorem Blk.cells {w : World} {g : Nat} {t : TypeId} {x0 x1 x2 x3 : Value} (h : Blk w g t x0 x1 x2 x3) :
    w.cell? ⟨g, 0, none⟩ = some x0 ∧ w.cell? ⟨g, 1, none⟩ = some x1 ∧ w.cell? ⟨g, 2, none⟩ = some x2 ∧ w.cell? ⟨g, 3, none⟩ = some x3 ∧ ∀ o, w.frozen? ⟨g, o, none⟩ = false := by
  unfold Blk at h
  refine ⟨by simp [World.cell?, h], by simp [World.cell?, h], by simp [World.cell?, h], by simp [World.cell?, h], fun o => by simp [World.frozen?, h]⟩

theorem Blk.alloc_new (w : World) (t : TypeId) (x0 x1 x2 x3 : Value) (g : Nat) (hg : g = w.heap.size) : Blk (w.alloc (.cells #[x0, x1, x2, x3] t)) g t x0 x1 x2 x3 := by
  subst hg
  show (w.heap.push _)[w.heap.size]? = _
  simp

theorem Blk.lt {w : World} {g : Nat} {t : TypeId} {x0 x1 x2 x3 : Value} (h : Blk w g t x0 x1 x2 x3) : g < w.heap.size := (Array.getElem?_eq_some_iff.1 h).1
theorem Blk.of_block {w w' : World} {g : Nat} {t : TypeId} {x0 x1 x2 x3 : Value} (h : Blk w g t x0 x1 x2 x3) (e : w'.heap[g]? = w.heap[g]?) : Blk w' g t x0 x1 x2 x3 := e.trans h
theorem Blk.below {w w' : World} {B g : Nat} {t : TypeId} {x0 x1 x2 x3 : Value} (h : Blk w g t x0 x1 x2 x3) (hb : Below B w w') (hg : g < B) : Blk w' g t x0 x1 x2 x3 := h.of_block (hb.block g hg)
theorem Blk.alloc {w : World} {g : Nat} {t : TypeId} {x0 x1 x2 x3 : Value} (h : Blk w g t x0 x1 x2 x3) (o : Obj) : Blk (w.alloc o) g t x0 x1 x2 x3 := h.of_block (Below.heap_alloc _ _ _ h.lt)
theorem Blk.setOther {w : World} {g : Nat} {t : TypeId} {x0 x1 x2 x3 : Value} (h : Blk w g t x0 x1 x2 x3) {a : Addr} (ha : g ≠ a.block) (v : Value) : Blk (w.setCell a v) g t x0 x1 x2 x3 := h.of_block (Below.heap_setCell _ _ _ _ ha)
theorem Blk.set {w : World} {g : Nat} {t : TypeId} {x0 x1 x2 x3 : Value} (h : Blk w g t x0 x1 x2 x3) (j : Nat) (v : Value) : (w.setCell ⟨g, j, none⟩ v).heap[g]? = some (.cells (#[x0, x1, x2, x3].setIfInBounds j v) t (0, 0)) := by
  unfold Blk at h
  simp [World.setCell, Array.getElem?_modify, h]
theorem Blk.set1 {w : World} {g : Nat} {t : TypeId} {x0 x1 x2 x3 : Value} (h : Blk w g t x0 x1 x2 x3) (v : Value) : Blk (w.setCell ⟨g, 1, none⟩ v) g t x0 v x2 x3 := h.set 1 v
theorem Blk.set2 {w : World} {g : Nat} {t : TypeId} {x0 x1 x2 x3 : Value} (h : Blk w g t x0 x1 x2 x3) (v : Value) : Blk (w.setCell ⟨g, 2, none⟩ v) g t x0 x1 v x3 := h.set 2 v
theorem Blk.set3 {w : World} {g : Nat} {t : TypeId} {x0 x1 x2 x3 : Value} (h : Blk w g t x0 x1 x2 x3) (v : Value) : Blk (w.setCell ⟨g, 3, none⟩ v) g t x0 x1 x2 v := h.set 3 v

/-- The cell j of a row of concepts of which the first k are laid. -/
def cellC (V : Nat → Value) (k j : Nat) : Value := if j < k * 4 then V j else if j % 4 = 0 then .int .i64 0 else .slice none 0 0

def putC (V : Nat → Value) (k : Nat) (x0 x1 x2 x3 : Value) (j : Nat) : Value := if j = k * 4 then x0 else if j = k * 4 + 1 then x1 else if j = k * 4 + 2 then x2 else if j = k * 4 + 3 then x3 else V j

theorem cellC_old (V : Nat → Value) (k : Nat) : cellC V k (k * 4) = .int .i64 0 ∧ cellC V k (k * 4 + 1) = .slice none 0 0 ∧ cellC V k (k * 4 + 2) = .slice none 0 0 ∧ cellC V k (k * 4 + 3) = .slice none 0 0 := by
  have m0 : k * 4 % 4 = 0 := by omega
  have m1 : (k * 4 + 1) % 4 = 1 := by omega
  have m2 : (k * 4 + 2) % 4 = 2 := by omega
  have m3 : (k * 4 + 3) % 4 = 3 := by omega
  refine ⟨?_, ?_, ?_, ?_⟩
  · simp [cellC]
  · unfold cellC; rw [if_neg (by omega), m1]; rfl
  · unfold cellC; rw [if_neg (by omega), m2]; rfl
  · unfold cellC; rw [if_neg (by omega), m3]; rfl

theorem rowC_made (w : World) (V : Nat → Value) (n : Nat) (t : TypeId) : (w.alloc (.cells (madeCells #[.int .i64 0, .slice none 0 0, .slice none 0 0, .slice none 0 0] (n * 4)) t)).rowIs w.heap.size t (n * 4) (cellC V 0) := by
  have key := World.rowIs_alloc w (madeCells #[.int .i64 0, .slice none 0 0, .slice none 0 0, .slice none 0 0] (n * 4)) t (cellC V 0) (fun i hi => ?_)
  · rw [size_madeCells] at key; exact key
  rw [size_madeCells] at hi
  have : i % 4 = 0 ∨ i % 4 = 1 ∨ i % 4 = 2 ∨ i % 4 = 3 := by omega
  rcases this with h | h | h | h <;> simp [madeCells, hi, cellC, h]

theorem rowC_step {w : World} {g n k : Nat} {t : TypeId} {V : Nat → Value} {x0 x1 x2 x3 : Value} (h : w.rowIs g t (n * 4) (cellC V k)) :
    ((((w.setCell ⟨g, k * 4, none⟩ x0).setCell ⟨g, k * 4 + 1, none⟩ x1).setCell ⟨g, k * 4 + 2, none⟩ x2).setCell ⟨g, k * 4 + 3, none⟩ x3).rowIs g t (n * 4) (cellC (putC V k x0 x1 x2 x3) (k + 1)) := by
  refine ((((h.set (k * 4) _).set (k * 4 + 1) _).set (k * 4 + 2) _).set (k * 4 + 3) _).congr fun j hj => ?_
  unfold cellC putC
  by_cases e3 : j = k * 4 + 3
  · subst e3; simp; omega
  · rw [if_neg e3]
    by_cases e2 : j = k * 4 + 2
    · subst e2; simp; omega
    · rw [if_neg e2]
      by_cases e1 : j = k * 4 + 1
      · subst e1; simp; omega
      · rw [if_neg e1]
        by_cases e0 : j = k * 4
        · subst e0; simp
        · rw [if_neg e0]
          by_cases hlt : j < k * 4
          · rw [if_pos hlt, if_pos (by omega), if_neg e0, if_neg e1, if_neg e2, if_neg e3]
          · rw [if_neg hlt, if_neg (show ¬ j < (k + 1) * 4 by omega)]

theorem RdC.shape {lo hi : Nat} {w : World} {d : Nat} {v : Value} {c : CN} (h : RdC lo hi w d v c) : ∃ k na nn nc ra rn rc ka kn kc, v = .agg #[.int .i64 k, .slice na nn nc, .slice ra rn rc, .slice ka kn kc] := by
  cases d with
  | zero => exact h.elim
  | succ d =>
    obtain ⟨na, nn, nc, ra, rn, rc, ka, kn, kc, hv, _⟩ := h
    exact ⟨_, na, nn, nc, ra, rn, rc, ka, kn, kc, hv⟩

theorem same_set4 (w : World) (g lo hi : Nat) (o0 o1 o2 o3 : Nat) (x0 x1 x2 x3 : Value) (h : g < lo) : Same lo hi w ((((w.setCell ⟨g, o0, none⟩ x0).setCell ⟨g, o1, none⟩ x1).setCell ⟨g, o2, none⟩ x2).setCell ⟨g, o3, none⟩ x3) := by
  intro b h1 h2
  rw [Below.heap_setCell _ _ _ _ (by simp; omega), Below.heap_setCell _ _ _ _ (by simp; omega), Below.heap_setCell _ _ _ _ (by simp; omega), Below.heap_setCell _ _ _ _ (by simp; omega)]

end Go.Proofs.YtpedjcabapldgaaDoor
