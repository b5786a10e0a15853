/- The laws' own copy of a concept: a contract each, for every depth. -/
import Derived.Test.YthojlfcahhjfaaaConMem
import Derived.Test.YthojlfcahhjfaaaBytes
namespace Go.Proofs.Ythojlfcahhjfaaa
open Go.RowKit

/-- As 'toByteS_any', and it lays one block, none of whose cells is frozen. -/
theorem toByteS_one (a : Option Addr) (n cap : Nat) (zs : List Int) (w : World) {lo hi : Nat} (h : Rd lo hi w a n cap zs) (hhi : hi ≤ w.heap.size) (hn : n ≤ 1048576) :
    Calls Try.prog 34 #[.slice a n cap] w fun e w' => e = .returned (.slice (some ⟨w.heap.size, 0, none⟩) n n) ∧ Row w' w.heap.size n zs ∧ Below w.heap.size w w' ∧ w'.heap.size = w.heap.size + 1 := by
  obtain ⟨hl, ⟨hm, _⟩, hby, hc⟩ := h
  have hmk := fun w : World => run_make_row' (P := Try.prog) 22 5 (.int .u8 0) 1 Try.underlying22 Try.info5 rfl .i64 .i64 n (by omega) (by omega) w
  have HL : Hid (zs.length = n) := hl
  have HCell : Hid (∀ k, k < n → ∃ b off, a = some ⟨b, off, none⟩ ∧ b < w.heap.size ∧ w.cell? ⟨b, off + k, none⟩ = some (.int .u8 (zs.getD k 0))) := by
    intro k hk
    rcases hc with h0 | ⟨b, off, e, _, hb, hcs⟩
    · omega
    · exact ⟨b, off, e, by omega, hcs k hk⟩
  have h0 : Hid ((w.alloc (.cells (madeCells #[.int .u8 0] n) 5)).rowIs w.heap.size 5 n (part zs 0)) := (World.rowIs_made w (.int .u8 0) n 5).congr (fun i _ => by simp [part])
  clear hc hby hl
  go_enter Try.func34, Try.ntmps34
  go_wp2
  go_loopw [4] (fun i wr => ∃ k : Nat, k ≤ n ∧ i = .int .i64 k ∧ wr.rowIs w.heap.size 5 n (part zs k) ∧ Below w.heap.size w wr ∧ wr.heap.size = w.heap.size + 1) (fun i _ => n - (intOf i).toNat)
  case atStart => exact ⟨0, Nat.zero_le _, rfl, h0.out, (Below.refl _ _).alloc (Nat.le_refl _) _, by simp⟩
  case round =>
    obtain ⟨k, hk, rfl, hrow, hbel, hsz⟩ := hrel
    by_cases hlt : k < n
    · obtain ⟨b, off, ha, hb, hcell⟩ := HCell.out k hlt
      subst ha
      obtain ⟨c, HC⟩ : ∃ c, Hid (c = zs.getD k 0) := ⟨_, rfl⟩
      have hck : wr.cell? ⟨b, off + k, none⟩ = some (.int .u8 c) := by rw [hbel.cell (p := ⟨b, off + k, none⟩) (by show b < _; omega), HC.out]; exact hcell
      have hfz := hrow.frozen k
      have hold : wr.cell? ⟨w.heap.size, k, none⟩ = some (.int .u8 0) := by have := hrow.cell hlt; simpa [part] using this
      have HR : Hid ((wr.setCell ⟨w.heap.size, k, none⟩ (.int .u8 c)).rowIs w.heap.size 5 n (part zs (k + 1))) := by unfold Hid; rw [HC.out]; exact row_step hrow
      have HB : Hid (Below w.heap.size w (wr.setCell ⟨w.heap.size, k, none⟩ (.int .u8 c)) ∧ (wr.setCell ⟨w.heap.size, k, none⟩ (.int .u8 c)).heap.size = w.heap.size + 1) := ⟨hbel.setCell (Nat.le_refl _) _, by simp [hsz]⟩
      clear hrow hbel hsz hcell
      go_wp2
      go_roundw
      case rel => exact ⟨k + 1, by omega, by go_num, HR.out, HB.out.1, HB.out.2⟩
      case measure => simp [intOf]; omega
    · have hkn : k = n := by omega
      have HR : Hid (Row wr w.heap.size n zs) := by
        have e := Row.of_rowIs (w := wr) (g := w.heap.size) (zs := zs) (by rw [HL.out]; exact hrow.congr (fun i hi => by simp [part, hkn, hi]))
        rw [HL.out] at e; exact e
      have HB : Hid (Below w.heap.size w wr ∧ wr.heap.size = w.heap.size + 1) := ⟨hbel, hsz⟩
      clear hrow hbel hkn hsz
      go_wp2
      go_ret
      exact ⟨rfl, HR.out, HB.out.1, HB.out.2⟩

theorem free_row {w : World} {g cap : Nat} {zs : List Int} (h : Row w g cap zs) (hs : w.heap.size = g + 1) : Free g w.heap.size w := by
  intro b h1 h2 o
  have e : b = g := by omega
  subst e
  exact h.frozen o

/-- A block of four cells, none frozen. -/
def Blk (w : World) (g : Nat) (t : TypeId) (x0 x1 x2 x3 : Value) : Prop := w.heap[g]? = some (.cells #[x0, x1, x2, x3] t (0, 0))

theorem Blk.cells {w : World} {g : Nat} {t : TypeId} {x0 x1 x2 x3 : Value} (h : Blk w g t x0 x1 x2 x3) :
    w.cell? ⟨g, 0, none⟩ = some x0 ∧ w.cell? ⟨g, 1, none⟩ = some x1 ∧ w.cell? ⟨g, 2, none⟩ = some x2 ∧ w.cell? ⟨g, 3, none⟩ = some x3 ∧ ∀ o, w.frozen? ⟨g, o, none⟩ = false := by
  unfold Blk at h
  refine ⟨by simp [World.cell?, h], by simp [World.cell?, h], by simp [World.cell?, h], by simp [World.cell?, h], fun o => by simp [World.frozen?, h]⟩

theorem Blk.alloc_new (w : World) (t : TypeId) (x0 x1 x2 x3 : Value) (g : Nat) (hg : g = w.heap.size) : Blk (w.alloc (.cells #[x0, x1, x2, x3] t)) g t x0 x1 x2 x3 := by
  subst hg
  show (w.heap.push _)[w.heap.size]? = _
  simp

theorem Blk.lt {w : World} {g : Nat} {t : TypeId} {x0 x1 x2 x3 : Value} (h : Blk w g t x0 x1 x2 x3) : g < w.heap.size := (Array.getElem?_eq_some_iff.1 h).1
theorem Blk.of_block {w w' : World} {g : Nat} {t : TypeId} {x0 x1 x2 x3 : Value} (h : Blk w g t x0 x1 x2 x3) (e : w'.heap[g]? = w.heap[g]?) : Blk w' g t x0 x1 x2 x3 := e.trans h
theorem Blk.below {w w' : World} {B g : Nat} {t : TypeId} {x0 x1 x2 x3 : Value} (h : Blk w g t x0 x1 x2 x3) (hb : Below B w w') (hg : g < B) : Blk w' g t x0 x1 x2 x3 := h.of_block (hb.block g hg)
theorem Blk.alloc {w : World} {g : Nat} {t : TypeId} {x0 x1 x2 x3 : Value} (h : Blk w g t x0 x1 x2 x3) (o : Obj) : Blk (w.alloc o) g t x0 x1 x2 x3 := h.of_block (Below.heap_alloc _ _ _ h.lt)
theorem Blk.setOther {w : World} {g : Nat} {t : TypeId} {x0 x1 x2 x3 : Value} (h : Blk w g t x0 x1 x2 x3) {a : Addr} (ha : g ≠ a.block) (v : Value) : Blk (w.setCell a v) g t x0 x1 x2 x3 := h.of_block (Below.heap_setCell _ _ _ _ ha)
theorem Blk.set {w : World} {g : Nat} {t : TypeId} {x0 x1 x2 x3 : Value} (h : Blk w g t x0 x1 x2 x3) (j : Nat) (v : Value) : (w.setCell ⟨g, j, none⟩ v).heap[g]? = some (.cells (#[x0, x1, x2, x3].setIfInBounds j v) t (0, 0)) := by
  unfold Blk at h
  simp [World.setCell, Array.getElem?_modify, h]
theorem Blk.set1 {w : World} {g : Nat} {t : TypeId} {x0 x1 x2 x3 : Value} (h : Blk w g t x0 x1 x2 x3) (v : Value) : Blk (w.setCell ⟨g, 1, none⟩ v) g t x0 v x2 x3 := h.set 1 v
theorem Blk.set2 {w : World} {g : Nat} {t : TypeId} {x0 x1 x2 x3 : Value} (h : Blk w g t x0 x1 x2 x3) (v : Value) : Blk (w.setCell ⟨g, 2, none⟩ v) g t x0 x1 v x3 := h.set 2 v
theorem Blk.set3 {w : World} {g : Nat} {t : TypeId} {x0 x1 x2 x3 : Value} (h : Blk w g t x0 x1 x2 x3) (v : Value) : Blk (w.setCell ⟨g, 3, none⟩ v) g t x0 x1 x2 v := h.set 3 v

def ToC (d : Nat) : Prop := ∀ (v : Value) (c : CN) (w : World) (lo hi : Nat), RdC lo hi w d v c → hi ≤ w.heap.size → c.bulk ≤ 1048576 →
  Calls Try.prog 26 #[v] w fun e w' => ∃ v', e = .returned v' ∧ RdC w.heap.size w'.heap.size w' d v' c ∧ Free w.heap.size w'.heap.size w' ∧ Below w.heap.size w w'

def ToL (d : Nat) : Prop := ∀ (a : Option Addr) (n cap : Nat) (cs : List CN) (w : World) (lo hi : Nat), RdL (RdC lo hi w d) lo hi w a n cap cs → hi ≤ w.heap.size → bulks cs ≤ 1048576 →
  Calls Try.prog 69 #[.slice a n cap] w fun e w' => e = .returned (.slice (some ⟨w.heap.size, 0, none⟩) n n) ∧ RdL (RdC w.heap.size w'.heap.size w' d) w.heap.size w'.heap.size w' (some ⟨w.heap.size, 0, none⟩) n n cs ∧ Free w.heap.size w'.heap.size w' ∧ Below w.heap.size w w'

set_option maxHeartbeats 1000000 in
theorem toC_of {d : Nat} (H : ToL d) : ToC (d + 1) := by
  intro v c w lo hi h hhi hbk
  obtain ⟨na, nn, nc, ra, rn, rc, ka, kn, kc, rfl, hn, hr, hk⟩ := h
  have hbe := c.bulk_eq
  rw [hn.len, hr.len] at hbe
  obtain ⟨kd, hkd⟩ : ∃ kd, kd = c.kind := ⟨_, rfl⟩
  rw [← hkd]
  have HKd : Hid (kd = c.kind) := hkd
  have hnn : nn ≤ 1048576 := by omega
  have hrn : rn ≤ 1048576 := by omega
  have HKb : Hid (bulks c.kids ≤ 1048576) := by rw [Hid]; omega
  have hkf := hk.fits
  have hkl := hk.len
  have HN : Hid (Rd lo hi w na nn nc c.name) := hn
  have HR : Hid (Rd lo hi w ra rn rc c.role) := hr
  have HK : Hid (RdL (RdC lo hi w d) lo hi w ka kn kc c.kids) := hk
  have hkn : kn ≤ 1048576 := by have := length_le_bulks c.kids; have := HKb.out; omega
  have HB0 : Hid (Below w.heap.size w (((w.alloc (Obj.cells #[Value.int IntKind.i64 kd, .slice na nn nc, .slice ra rn rc, .slice ka kn kc] 44)).alloc (Obj.cells #[Value.int IntKind.i64 0, .slice none 0 0, .slice none 0 0, .slice none 0 0] 35)).alloc (Obj.cells #[Value.int IntKind.i64 kd, .slice none 0 0, .slice none 0 0, .slice none 0 0] 35))) := (((Below.refl _ _).alloc (Nat.le_refl _) _).alloc (by simp) _).alloc (by simp; omega) _
  have HF0 : Hid (Free w.heap.size (w.heap.size + 1 + 1 + 1) (((w.alloc (Obj.cells #[Value.int IntKind.i64 kd, .slice na nn nc, .slice ra rn rc, .slice ka kn kc] 44)).alloc (Obj.cells #[Value.int IntKind.i64 0, .slice none 0 0, .slice none 0 0, .slice none 0 0] 35)).alloc (Obj.cells #[Value.int IntKind.i64 kd, .slice none 0 0, .slice none 0 0, .slice none 0 0] 35))) := by
    have f1 := (Free.nil w w.heap.size).alloc #[Value.int IntKind.i64 kd, .slice na nn nc, .slice ra rn rc, .slice ka kn kc] 44
    have f2 := Free.alloc (w := w.alloc (Obj.cells #[Value.int IntKind.i64 kd, .slice na nn nc, .slice ra rn rc, .slice ka kn kc] 44)) (by simpa using f1) #[Value.int IntKind.i64 0, .slice none 0 0, .slice none 0 0, .slice none 0 0] 35
    have f3 := Free.alloc (w := (w.alloc (Obj.cells #[Value.int IntKind.i64 kd, .slice na nn nc, .slice ra rn rc, .slice ka kn kc] 44)).alloc (Obj.cells #[Value.int IntKind.i64 0, .slice none 0 0, .slice none 0 0, .slice none 0 0] 35)) (by simpa using f2) #[Value.int IntKind.i64 kd, .slice none 0 0, .slice none 0 0, .slice none 0 0] 35
    simpa [Hid] using f3
  have HP0 : Hid (Blk (((w.alloc (Obj.cells #[Value.int IntKind.i64 kd, .slice na nn nc, .slice ra rn rc, .slice ka kn kc] 44)).alloc (Obj.cells #[Value.int IntKind.i64 0, .slice none 0 0, .slice none 0 0, .slice none 0 0] 35)).alloc (Obj.cells #[Value.int IntKind.i64 kd, .slice none 0 0, .slice none 0 0, .slice none 0 0] 35)) (w.heap.size + 1) 35 (.int .i64 0) (.slice none 0 0) (.slice none 0 0) (.slice none 0 0)) := (Blk.alloc_new _ _ _ _ _ _ _ (by simp)).alloc _
  have HQ0 : Hid (Blk (((w.alloc (Obj.cells #[Value.int IntKind.i64 kd, .slice na nn nc, .slice ra rn rc, .slice ka kn kc] 44)).alloc (Obj.cells #[Value.int IntKind.i64 0, .slice none 0 0, .slice none 0 0, .slice none 0 0] 35)).alloc (Obj.cells #[Value.int IntKind.i64 kd, .slice none 0 0, .slice none 0 0, .slice none 0 0] 35)) (w.heap.size + 1 + 1) 35 (.int .i64 kd) (.slice none 0 0) (.slice none 0 0) (.slice none 0 0)) := Blk.alloc_new _ _ _ _ _ _ _ (by simp)
  have HA0 : Hid (Blk (((w.alloc (Obj.cells #[Value.int IntKind.i64 kd, .slice na nn nc, .slice ra rn rc, .slice ka kn kc] 44)).alloc (Obj.cells #[Value.int IntKind.i64 0, .slice none 0 0, .slice none 0 0, .slice none 0 0] 35)).alloc (Obj.cells #[Value.int IntKind.i64 kd, .slice none 0 0, .slice none 0 0, .slice none 0 0] 35)) w.heap.size 44 (.int .i64 kd) (.slice na nn nc) (.slice ra rn rc) (.slice ka kn kc)) := ((Blk.alloc_new _ _ _ _ _ _ _ rfl).alloc _).alloc _
  clear hn hr hk hbe hkd
  go_enter Try.func26, Try.ntmps26
  go_wp2_with fail
  refine (toByteS_one na nn nc c.name _ (HN.out.below HB0.out hhi) (Nat.le_trans hhi HB0.out.size) hnn).mono ?_
  rintro e w1 ⟨rfl, hrow1, hb1, hs1⟩
  simp only [World.size_alloc] at hrow1 hb1 hs1
  have hP1 := HP0.out.below hb1 (by omega)
  have hQ1 := HQ0.out.below hb1 (by omega)
  have hA1 := HA0.out.below hb1 (by omega)
  have HV1 : Hid (Below w.heap.size w (w1.setCell ⟨w.heap.size + 1 + 1, 1, none⟩ (.slice (some ⟨w.heap.size + 1 + 1 + 1, 0, none⟩) nn nn))) := by
    rw [Hid, below_set _ _ _ _ _ _ (by omega)]; exact HB0.out.trans (hb1.mono (by omega))
  have HF1 : Hid (Free w.heap.size (w.heap.size + 1 + 1 + 1 + 1) (w1.setCell ⟨w.heap.size + 1 + 1, 1, none⟩ (.slice (some ⟨w.heap.size + 1 + 1 + 1, 0, none⟩) nn nn))) := by
    refine Free.set ?_ _ _
    have := (HF0.out.same (Same.of_below hb1 (Nat.le_refl _))).join (free_row hrow1 hs1)
    rwa [hs1] at this
  have HP1 : Hid (Blk (w1.setCell ⟨w.heap.size + 1 + 1, 1, none⟩ (.slice (some ⟨w.heap.size + 1 + 1 + 1, 0, none⟩) nn nn)) (w.heap.size + 1) 35 (.int .i64 0) (.slice none 0 0) (.slice none 0 0) (.slice none 0 0)) := hP1.setOther (by simp) _
  have HQ1 : Hid (Blk (w1.setCell ⟨w.heap.size + 1 + 1, 1, none⟩ (.slice (some ⟨w.heap.size + 1 + 1 + 1, 0, none⟩) nn nn)) (w.heap.size + 1 + 1) 35 (.int .i64 kd) (.slice (some ⟨w.heap.size + 1 + 1 + 1, 0, none⟩) nn nn) (.slice none 0 0) (.slice none 0 0)) := hQ1.set1 _
  have HR1 : Hid (Row (w1.setCell ⟨w.heap.size + 1 + 1, 1, none⟩ (.slice (some ⟨w.heap.size + 1 + 1 + 1, 0, none⟩) nn nn)) (w.heap.size + 1 + 1 + 1) nn c.name) := hrow1.setOf (by simp)
  have HA1 : Hid (Blk (w1.setCell ⟨w.heap.size + 1 + 1, 1, none⟩ (.slice (some ⟨w.heap.size + 1 + 1 + 1, 0, none⟩) nn nn)) w.heap.size 44 (.int .i64 kd) (.slice na nn nc) (.slice ra rn rc) (.slice ka kn kc)) := hA1.setOther (by simp; omega) _
  obtain ⟨q0, q1, q2, q3, qf⟩ := hQ1.cells
  obtain ⟨_, _, a2, a3, _⟩ := hA1.cells
  have hws1 : w1.heap.size = w.heap.size + 1 + 1 + 1 + 1 := hs1
  clear hrow1 hb1 hs1 hP1 hQ1 hA1
  go_wp2_with fail
  refine (toByteS_one ra rn rc c.role _ (HR.out.below HV1.out hhi) (Nat.le_trans hhi HV1.out.size) hrn).mono ?_
  rintro e w2 ⟨rfl, hrow2, hb2, hs2⟩
  simp only [World.size_setCell, hws1] at hrow2 hb2 hs2
  clear q0 q1 q2 q3 qf a2 a3
  have hP2 := HP1.out.below hb2 (by omega)
  have hQ2 := HQ1.out.below hb2 (by omega)
  have hA2 := HA1.out.below hb2 (by omega)
  have HV2 : Hid (Below w.heap.size w (w2.setCell ⟨w.heap.size + 1 + 1, 2, none⟩ (.slice (some ⟨w.heap.size + 1 + 1 + 1 + 1, 0, none⟩) rn rn))) := by
    rw [Hid, below_set _ _ _ _ _ _ (by omega)]; exact HV1.out.trans (hb2.mono (by omega))
  have HF2 : Hid (Free w.heap.size (w.heap.size + 1 + 1 + 1 + 1 + 1) (w2.setCell ⟨w.heap.size + 1 + 1, 2, none⟩ (.slice (some ⟨w.heap.size + 1 + 1 + 1 + 1, 0, none⟩) rn rn))) := by
    refine Free.set ?_ _ _
    have := (HF1.out.same (Same.of_below hb2 (Nat.le_refl _))).join (free_row hrow2 hs2)
    rwa [hs2] at this
  have HP2 : Hid (Blk (w2.setCell ⟨w.heap.size + 1 + 1, 2, none⟩ (.slice (some ⟨w.heap.size + 1 + 1 + 1 + 1, 0, none⟩) rn rn)) (w.heap.size + 1) 35 (.int .i64 0) (.slice none 0 0) (.slice none 0 0) (.slice none 0 0)) := hP2.setOther (by simp) _
  have HQ2 : Hid (Blk (w2.setCell ⟨w.heap.size + 1 + 1, 2, none⟩ (.slice (some ⟨w.heap.size + 1 + 1 + 1 + 1, 0, none⟩) rn rn)) (w.heap.size + 1 + 1) 35 (.int .i64 kd) (.slice (some ⟨w.heap.size + 1 + 1 + 1, 0, none⟩) nn nn) (.slice (some ⟨w.heap.size + 1 + 1 + 1 + 1, 0, none⟩) rn rn) (.slice none 0 0)) := hQ2.set2 _
  have HRn2 : Hid (Row (w2.setCell ⟨w.heap.size + 1 + 1, 2, none⟩ (.slice (some ⟨w.heap.size + 1 + 1 + 1 + 1, 0, none⟩) rn rn)) (w.heap.size + 1 + 1 + 1) nn c.name) := (HR1.out.below hb2 (by omega)).setOf (by simp)
  have HRr2 : Hid (Row (w2.setCell ⟨w.heap.size + 1 + 1, 2, none⟩ (.slice (some ⟨w.heap.size + 1 + 1 + 1 + 1, 0, none⟩) rn rn)) (w.heap.size + 1 + 1 + 1 + 1) rn c.role) := hrow2.setOf (by simp; omega)
  obtain ⟨q0, q1, q2, q3, qf⟩ := hQ2.cells
  obtain ⟨_, _, a2, a3, _⟩ := hA2.cells
  have hws2 : w2.heap.size = w.heap.size + 1 + 1 + 1 + 1 + 1 := hs2
  clear hrow2 hb2 hs2 hP2 hQ2 hA2
  go_wp2_with fail
  refine (H ka kn kc c.kids _ lo hi (HK.out.below HV2.out hhi) (Nat.le_trans hhi HV2.out.size) HKb.out).mono ?_
  rintro e w3 ⟨rfl, hrd3, hf3, hb3⟩
  simp only [World.size_setCell, hws2] at hrd3 hf3 hb3
  clear q0 q1 q2 q3 qf a2 a3
  have hs3 := hb3.size
  simp only [World.size_setCell, hws2] at hs3
  have hP3 := HP2.out.below hb3 (by omega)
  have hQ3 := HQ2.out.below hb3 (by omega)
  obtain ⟨q0, q1, q2, q3, qf⟩ := hQ3.cells
  obtain ⟨p0, p1, p2, p3, pf⟩ := hP3.cells
  have HV3 : Hid (Below w.heap.size w w3) := HV2.out.trans (hb3.mono (by omega))
  have HF3 : Hid (Free w.heap.size w3.heap.size w3) := (HF2.out.same (Same.of_below hb3 (Nat.le_refl _))).join hf3
  have HRn3 : Hid (Row w3 (w.heap.size + 1 + 1 + 1) nn c.name) := HRn2.out.below hb3 (by omega)
  have HRr3 : Hid (Row w3 (w.heap.size + 1 + 1 + 1 + 1) rn c.role) := HRr2.out.below hb3 (by omega)
  have HK3 : Hid (RdL (RdC (w.heap.size + 1 + 1 + 1 + 1 + 1) w3.heap.size w3 d) (w.heap.size + 1 + 1 + 1 + 1 + 1) w3.heap.size w3 (some ⟨w.heap.size + 1 + 1 + 1 + 1 + 1, 0, none⟩) kn kn c.kids) := hrd3
  clear hrd3 hf3 hb3 hP3 hQ3
  go_wp2_with fail
  have hS : Same (w.heap.size + 1 + 1 + 1) w3.heap.size w3 (((((w3.setCell ⟨w.heap.size + 1 + 1, 3, none⟩ (.slice (some ⟨w.heap.size + 1 + 1 + 1 + 1 + 1, 0, none⟩) kn kn)).setCell ⟨w.heap.size + 1, 0, none⟩ (.int .i64 kd)).setCell ⟨w.heap.size + 1, 1, none⟩ (.slice (some ⟨w.heap.size + 1 + 1 + 1, 0, none⟩) nn nn)).setCell ⟨w.heap.size + 1, 2, none⟩ (.slice (some ⟨w.heap.size + 1 + 1 + 1 + 1, 0, none⟩) rn rn)).setCell ⟨w.heap.size + 1, 3, none⟩ (.slice (some ⟨w.heap.size + 1 + 1 + 1 + 1 + 1, 0, none⟩) kn kn)) := by
    intro b h1 h2
    rw [Below.heap_setCell _ _ _ _ (by simp; omega), Below.heap_setCell _ _ _ _ (by simp; omega), Below.heap_setCell _ _ _ _ (by simp; omega), Below.heap_setCell _ _ _ _ (by simp; omega), Below.heap_setCell _ _ _ _ (by simp; omega)]
  have hsz : (((((w3.setCell ⟨w.heap.size + 1 + 1, 3, none⟩ (.slice (some ⟨w.heap.size + 1 + 1 + 1 + 1 + 1, 0, none⟩) kn kn)).setCell ⟨w.heap.size + 1, 0, none⟩ (.int .i64 kd)).setCell ⟨w.heap.size + 1, 1, none⟩ (.slice (some ⟨w.heap.size + 1 + 1 + 1, 0, none⟩) nn nn)).setCell ⟨w.heap.size + 1, 2, none⟩ (.slice (some ⟨w.heap.size + 1 + 1 + 1 + 1, 0, none⟩) rn rn)).setCell ⟨w.heap.size + 1, 3, none⟩ (.slice (some ⟨w.heap.size + 1 + 1 + 1 + 1 + 1, 0, none⟩) kn kn)).heap.size = w3.heap.size := by simp
  refine bodyPost_ret (v := .agg #[.int .i64 kd, .slice (some ⟨w.heap.size + 1 + 1 + 1, 0, none⟩) nn nn, .slice (some ⟨w.heap.size + 1 + 1 + 1 + 1, 0, none⟩) rn rn, .slice (some ⟨w.heap.size + 1 + 1 + 1 + 1 + 1, 0, none⟩) kn kn]) (by simp [results, Try.results26, go_sem, p0, p1, p2, p3]) rfl ⟨_, rfl, ?_, ?_, ?_⟩
  · rw [hsz]
    refine ⟨_, _, _, _, _, _, _, _, _, by rw [HKd.out], ?_, ?_, ?_⟩
    · exact (HRn3.out.same hS (by omega) (by omega)).rd HN.out.len HN.out.byte (by omega) (by omega) (by omega)
    · exact (HRr3.out.same hS (by omega) (by omega)).rd HR.out.len HR.out.byte (by omega) (by omega) (by omega)
    · exact HK3.out.imp (fun v c h => (h.same (hS.mono (by omega) (Nat.le_refl _))).mono (by omega) (Nat.le_refl _)) (hS.mono (by omega) (Nat.le_refl _)) (by omega) (Nat.le_refl _)
  · rw [hsz]
    exact ((((HF3.out.set _ _).set _ _).set _ _).set _ _).set _ _
  · simp only [below_set _ _ _ _ _ _ (show w.heap.size ≤ w.heap.size + 1 by omega), below_set _ _ _ _ _ _ (show w.heap.size ≤ w.heap.size + 1 + 1 by omega)]
    exact HV3.out

/-- The cell j of a row of concepts of which the first k are laid. -/
def cellC (V : Nat → Value) (k j : Nat) : Value := if j < k * 4 then V j else if j % 4 = 0 then .int .i64 0 else .slice none 0 0

def putC (V : Nat → Value) (k : Nat) (x0 x1 x2 x3 : Value) (j : Nat) : Value := if j = k * 4 then x0 else if j = k * 4 + 1 then x1 else if j = k * 4 + 2 then x2 else if j = k * 4 + 3 then x3 else V j

theorem cellC_old (V : Nat → Value) (k : Nat) : cellC V k (k * 4) = .int .i64 0 ∧ cellC V k (k * 4 + 1) = .slice none 0 0 ∧ cellC V k (k * 4 + 2) = .slice none 0 0 ∧ cellC V k (k * 4 + 3) = .slice none 0 0 := by
  have m0 : k * 4 % 4 = 0 := by omega
  have m1 : (k * 4 + 1) % 4 = 1 := by omega
  have m2 : (k * 4 + 2) % 4 = 2 := by omega
  have m3 : (k * 4 + 3) % 4 = 3 := by omega
  refine ⟨?_, ?_, ?_, ?_⟩
  · simp [cellC]
  · unfold cellC; rw [if_neg (by omega), m1]; rfl
  · unfold cellC; rw [if_neg (by omega), m2]; rfl
  · unfold cellC; rw [if_neg (by omega), m3]; rfl

theorem rowC_made (w : World) (V : Nat → Value) (n : Nat) (t : TypeId) : (w.alloc (.cells (madeCells #[.int .i64 0, .slice none 0 0, .slice none 0 0, .slice none 0 0] (n * 4)) t)).rowIs w.heap.size t (n * 4) (cellC V 0) := by
  have key := World.rowIs_alloc w (madeCells #[.int .i64 0, .slice none 0 0, .slice none 0 0, .slice none 0 0] (n * 4)) t (cellC V 0) (fun i hi => ?_)
  · rw [size_madeCells] at key; exact key
  rw [size_madeCells] at hi
  have : i % 4 = 0 ∨ i % 4 = 1 ∨ i % 4 = 2 ∨ i % 4 = 3 := by omega
  rcases this with h | h | h | h <;> simp [madeCells, hi, cellC, h]

theorem rowC_step {w : World} {g n k : Nat} {t : TypeId} {V : Nat → Value} {x0 x1 x2 x3 : Value} (h : w.rowIs g t (n * 4) (cellC V k)) :
    ((((w.setCell ⟨g, k * 4, none⟩ x0).setCell ⟨g, k * 4 + 1, none⟩ x1).setCell ⟨g, k * 4 + 2, none⟩ x2).setCell ⟨g, k * 4 + 3, none⟩ x3).rowIs g t (n * 4) (cellC (putC V k x0 x1 x2 x3) (k + 1)) := by
  refine ((((h.set (k * 4) _).set (k * 4 + 1) _).set (k * 4 + 2) _).set (k * 4 + 3) _).congr fun j hj => ?_
  unfold cellC putC
  by_cases e3 : j = k * 4 + 3
  · subst e3; simp; omega
  · rw [if_neg e3]
    by_cases e2 : j = k * 4 + 2
    · subst e2; simp; omega
    · rw [if_neg e2]
      by_cases e1 : j = k * 4 + 1
      · subst e1; simp; omega
      · rw [if_neg e1]
        by_cases e0 : j = k * 4
        · subst e0; simp
        · rw [if_neg e0]
          by_cases hlt : j < k * 4
          · rw [if_pos hlt, if_pos (by omega), if_neg e0, if_neg e1, if_neg e2, if_neg e3]
          · rw [if_neg hlt, if_neg (show ¬ j < (k + 1) * 4 by omega)]

theorem RdC.shape {lo hi : Nat} {w : World} {d : Nat} {v : Value} {c : CN} (h : RdC lo hi w d v c) : ∃ k na nn nc ra rn rc ka kn kc, v = .agg #[.int .i64 k, .slice na nn nc, .slice ra rn rc, .slice ka kn kc] := by
  cases d with
  | zero => exact h.elim
  | succ d =>
    obtain ⟨na, nn, nc, ra, rn, rc, ka, kn, kc, hv, _⟩ := h
    exact ⟨_, na, nn, nc, ra, rn, rc, ka, kn, kc, hv⟩

theorem Try.infoCon : (Try.prog.info? 35).map (fun i => (i.zero, i.size, i.bytes)) = some (some (.agg #[.int .i64 0, .slice none 0 0, .slice none 0 0, .slice none 0 0]), 4, 80) := by kernel_rfl

theorem same_set4 (w : World) (g lo hi : Nat) (o0 o1 o2 o3 : Nat) (x0 x1 x2 x3 : Value) (h : g < lo) : Same lo hi w ((((w.setCell ⟨g, o0, none⟩ x0).setCell ⟨g, o1, none⟩ x1).setCell ⟨g, o2, none⟩ x2).setCell ⟨g, o3, none⟩ x3) := by
  intro b h1 h2
  rw [Below.heap_setCell _ _ _ _ (by simp; omega), Below.heap_setCell _ _ _ _ (by simp; omega), Below.heap_setCell _ _ _ _ (by simp; omega), Below.heap_setCell _ _ _ _ (by simp; omega)]

set_option maxHeartbeats 1000000 in
theorem toL_of {d : Nat} (H : ToC d) : ToL d := by
  intro a n cap cs w lo hi h hhi hbk
  have HR : Hid (RdL (RdC lo hi w d) lo hi w a n cap cs) := h
  obtain ⟨hl, ⟨hm, hM⟩, hcs⟩ := h
  clear hcs
  have HL : Hid (cs.length = n) := hl
  have hn1 : n ≤ 1048576 := by have := length_le_bulks cs; omega
  have HBk : Hid (bulks cs ≤ 1048576) := hbk
  have hmk : ∀ w : World, (Instr.makeSlice 33 (.int .i64 (n : Int)) (.int .i64 (n : Int))).run Try.prog w = .ok (.slice (some ⟨w.heap.size, 0, none⟩) n n) (w.alloc (.cells (madeCells #[.int .i64 0, .slice none 0 0, .slice none 0 0, .slice none 0 0] (n * 4)) 35)) := by
    intro w
    obtain ⟨i0, hi0, hz0, hz1, hz2⟩ := info_parts Try.infoCon
    have hr := run_make (P := Try.prog) w 33 35 i0 _ Try.underlying33 hi0 hz0 .i64 .i64 n n (by omega) (Int.le_refl _) (by rw [hz2]; omega) (by omega)
    simp only [Int.toNat_natCast, hz1] at hr
    exact hr
  have h0 : Hid ((w.alloc (.cells (madeCells #[.int .i64 0, .slice none 0 0, .slice none 0 0, .slice none 0 0] (n * 4)) 35)).rowIs w.heap.size 35 (n * 4) (cellC (fun _ => .slice none 0 0) 0)) := rowC_made w _ n _
  have HF0 : Hid (Free w.heap.size (w.heap.size + 1) (w.alloc (.cells (madeCells #[.int .i64 0, .slice none 0 0, .slice none 0 0, .slice none 0 0] (n * 4)) 35))) := (Free.nil w w.heap.size).alloc _ _
  clear hl hbk
  go_enter Try.func69, Try.ntmps69
  go_wp2_with fail
  go_loopw [4] (fun i wr => ∃ (k : Nat) (V : Nat → Value), k ≤ n ∧ i = .int .i64 k ∧ wr.rowIs w.heap.size 35 (n * 4) (cellC V k) ∧ (∀ i, i < k → RdC (w.heap.size + 1) wr.heap.size wr d (.agg #[V (i * 4), V (i * 4 + 1), V (i * 4 + 2), V (i * 4 + 3)]) (cs.getD i CN.zero)) ∧ Free w.heap.size wr.heap.size wr ∧ Below w.heap.size w wr) (fun i _ => n - (intOf i).toNat)
  case atStart => exact ⟨0, _, Nat.zero_le _, rfl, h0.out, fun i hi => absurd hi (by omega), by simpa using HF0.out, (Below.refl _ _).alloc (Nat.le_refl _) _⟩
  case round =>
    obtain ⟨k, V, hk, rfl, hrow, hkd, hfr, hbel⟩ := hrel
    by_cases hlt : k < n
    · have hR := HR.out.same (Same.of_below hbel hhi)
      rcases hR.cells with hz | ⟨b, off, e1, _, hbh, hc⟩
      · omega
      · subst e1
        obtain ⟨v0, v1, v2, v3, c0, c1, c2, c3, hr⟩ := hc k hlt
        have HKid : Hid (RdC lo hi wr d (.agg #[v0, v1, v2, v3]) (cs.getD k CN.zero)) := hr
        have HKd : Hid (∀ i, i < k → RdC (w.heap.size + 1) wr.heap.size wr d (.agg #[V (i * 4), V (i * 4 + 1), V (i * 4 + 2), V (i * 4 + 3)]) (cs.getD i CN.zero)) := hkd
        have HB : Hid (Below w.heap.size w wr) := hbel
        have HRow : Hid (wr.rowIs w.heap.size 35 (n * 4) (cellC V k)) := hrow
        have HFr : Hid (Free w.heap.size wr.heap.size wr) := hfr
        have hki : (k : Int) < (n : Int) := by omega
        have hlw := hrow.lt
        have hkb : (cs.getD k CN.zero).bulk ≤ 1048576 := by have := getD_bulk_le cs k (by rw [HL.out]; exact hlt); have := HBk.out; omega
        clear hR hc hr hbel hrow hkd hfr
        go_wp2_with fail
        refine (H _ (cs.getD k CN.zero) _ lo hi HKid.out (Nat.le_trans hhi HB.out.size) hkb).mono ?_
        rintro e w1 ⟨v', rfl, hrd, hf1, hb1⟩
        obtain ⟨xk, xa, xn, xc, ya, yn, yc, za, zn, zc, rfl⟩ := hrd.shape
        have hs1 := hb1.size
        have hrow1 : w1.rowIs w.heap.size 35 (n * 4) (cellC V k) := HRow.out.of_block (hb1.block _ hlw)
        obtain ⟨o0, o1, o2, o3⟩ := cellC_old V k
        have d0 : w1.cell? ⟨w.heap.size, k * 4, none⟩ = some (.int .i64 0) := by rw [hrow1.cell (show k * 4 < n * 4 by omega), o0]
        have d1 : w1.cell? ⟨w.heap.size, k * 4 + 1, none⟩ = some (.slice none 0 0) := by rw [hrow1.cell (show k * 4 + 1 < n * 4 by omega), o1]
        have d2 : w1.cell? ⟨w.heap.size, k * 4 + 2, none⟩ = some (.slice none 0 0) := by rw [hrow1.cell (show k * 4 + 2 < n * 4 by omega), o2]
        have d3 : w1.cell? ⟨w.heap.size, k * 4 + 3, none⟩ = some (.slice none 0 0) := by rw [hrow1.cell (show k * 4 + 3 < n * 4 by omega), o3]
        have df : ∀ o, w1.frozen? ⟨w.heap.size, o, none⟩ = false := fun o => hrow1.frozen o
        have HStep := rowC_step (x0 := .int .i64 xk) (x1 := .slice xa xn xc) (x2 := .slice ya yn yc) (x3 := .slice za zn zc) hrow1
        have hS := same_set4 w1 w.heap.size (w.heap.size + 1) w1.heap.size (k * 4) (k * 4 + 1) (k * 4 + 2) (k * 4 + 3) (.int .i64 xk) (.slice xa xn xc) (.slice ya yn yc) (.slice za zn zc) (Nat.lt_succ_self _)
        obtain ⟨w2, hw2⟩ : ∃ w2, w2 = ((((w1.setCell ⟨w.heap.size, k * 4, none⟩ (.int .i64 xk)).setCell ⟨w.heap.size, k * 4 + 1, none⟩ (.slice xa xn xc)).setCell ⟨w.heap.size, k * 4 + 2, none⟩ (.slice ya yn yc)).setCell ⟨w.heap.size, k * 4 + 3, none⟩ (.slice za zn zc)) := ⟨_, rfl⟩
        have hsz2 : w2.heap.size = w1.heap.size := by rw [hw2]; simp
        rw [← hw2] at HStep hS
        have HW2 : Hid (w2 = ((((w1.setCell ⟨w.heap.size, k * 4, none⟩ (.int .i64 xk)).setCell ⟨w.heap.size, k * 4 + 1, none⟩ (.slice xa xn xc)).setCell ⟨w.heap.size, k * 4 + 2, none⟩ (.slice ya yn yc)).setCell ⟨w.heap.size, k * 4 + 3, none⟩ (.slice za zn zc))) := hw2
        have HRes : Hid (∃ (k' : Nat) (V' : Nat → Value), k' ≤ n ∧ Value.int .i64 ((k : Int) + 1) = .int .i64 k' ∧ w2.rowIs w.heap.size 35 (n * 4) (cellC V' k') ∧ (∀ i, i < k' → RdC (w.heap.size + 1) w2.heap.size w2 d (.agg #[V' (i * 4), V' (i * 4 + 1), V' (i * 4 + 2), V' (i * 4 + 3)]) (cs.getD i CN.zero)) ∧ Free w.heap.size w2.heap.size w2 ∧ Below w.heap.size w w2) := by
          refine ⟨k + 1, putC V k (.int .i64 xk) (.slice xa xn xc) (.slice ya yn yc) (.slice za zn zc), by omega, by simp, HStep, ?_, ?_, ?_⟩
          · intro i hi
            rw [hsz2]
            by_cases e : i = k
            · subst e
              have p0 : putC V i (.int .i64 xk) (.slice xa xn xc) (.slice ya yn yc) (.slice za zn zc) (i * 4) = .int .i64 xk := by simp [putC]
              have p1 : putC V i (.int .i64 xk) (.slice xa xn xc) (.slice ya yn yc) (.slice za zn zc) (i * 4 + 1) = .slice xa xn xc := by simp [putC]
              have p2 : putC V i (.int .i64 xk) (.slice xa xn xc) (.slice ya yn yc) (.slice za zn zc) (i * 4 + 2) = .slice ya yn yc := by simp [putC]
              have p3 : putC V i (.int .i64 xk) (.slice xa xn xc) (.slice ya yn yc) (.slice za zn zc) (i * 4 + 3) = .slice za zn zc := by simp [putC]
              rw [p0, p1, p2, p3]
              exact (hrd.mono (by omega) (Nat.le_refl _)).same hS
            · have q : ∀ j, j < 4 → putC V k (.int .i64 xk) (.slice xa xn xc) (.slice ya yn yc) (.slice za zn zc) (i * 4 + j) = V (i * 4 + j) := by
                intro j hj
                unfold putC
                rw [if_neg (by omega), if_neg (by omega), if_neg (by omega), if_neg (by omega)]
              have q0 := q 0 (by omega)
              rw [Nat.add_zero] at q0
              rw [q0, q 1 (by omega), q 2 (by omega), q 3 (by omega)]
              exact (((HKd.out i (by omega)).below hb1 (Nat.le_refl _)).mono (Nat.le_refl _) hs1).same hS
          · rw [hsz2, hw2]
            exact (((((HFr.out.next hb1 hf1).set _ _).set _ _).set _ _).set _ _)
          · rw [hw2]
            simp only [below_set _ _ _ _ _ _ (Nat.le_refl w.heap.size)]
            exact HB.out.trans (hb1.mono HB.out.size)
        clear hrow1 o0 o1 o2 o3 hrd hf1 hb1 HStep hS hw2 hsz2
        go_wp2_with fail
        rw [← HW2.out]
        go_roundw
        case rel => exact HRes.out
        case measure => simp [intOf]; omega
    · have hkn : k = n := by omega
      subst hkn
      have HF : Hid (RdL (RdC w.heap.size wr.heap.size wr d) w.heap.size wr.heap.size wr (some ⟨w.heap.size, 0, none⟩) k k cs) := by
        refine ⟨HL.out, by omega, .inr ⟨_, _, rfl, Nat.le_refl _, hrow.lt, fun i hi => ?_⟩⟩
        refine ⟨V (i * 4), V (i * 4 + 1), V (i * 4 + 2), V (i * 4 + 3), ?_, ?_, ?_, ?_, (hkd i hi).mono (by omega) (Nat.le_refl _)⟩
        · rw [Nat.zero_add, hrow.cell (show i * 4 < k * 4 by omega)]; unfold cellC; rw [if_pos (by omega)]
        · rw [Nat.zero_add, hrow.cell (show i * 4 + 1 < k * 4 by omega)]; unfold cellC; rw [if_pos (by omega)]
        · rw [Nat.zero_add, hrow.cell (show i * 4 + 2 < k * 4 by omega)]; unfold cellC; rw [if_pos (by omega)]
        · rw [Nat.zero_add, hrow.cell (show i * 4 + 3 < k * 4 by omega)]; unfold cellC; rw [if_pos (by omega)]
      have HB : Hid (Free w.heap.size wr.heap.size wr ∧ Below w.heap.size w wr) := ⟨hfr, hbel⟩
      clear hrow hkd hfr hbel
      go_wp2_with fail
      go_ret
      exact ⟨rfl, HF.out, HB.out.1, HB.out.2⟩

theorem toC_any : ∀ d, ToC d
  | 0 => fun _ _ _ _ _ h => h.elim
  | d + 1 => toC_of (toL_of (toC_any d))

end Go.Proofs.Ythojlfcahhjfaaa
