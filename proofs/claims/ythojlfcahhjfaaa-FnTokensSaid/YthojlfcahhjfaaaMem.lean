/- What memory reads as, what stays as it was, and what a marking of cells does: plain facts on worlds, without the program. -/
import Derived.WalkKit
import Derived.WalkSpells
import Derived.WalkLawsBesides
import Derived.Deep.OwnRows
namespace Go.Proofs.Ythojlfcahhjfaaa
open Go.RowKit

theorem rb {a b : Bool} (h : a = b) : Ending.returned (.bool a) = .returned (.bool b) := by rw [h]
theorem ri {a b : Int} (h : a = b) : Ending.returned (.int .i64 a) = .returned (.int .i64 b) := by rw [h]

theorem drew_add (w : World) (m n : Nat) : (w.drewN m).drewN n = w.drewN (m + n) := by
  induction n with
  | zero => rfl
  | succ n ih => show ((w.drewN m).drewN n).drew = _; rw [ih]; rfl

/-- The blocks from lo on, below hi, are as they were. -/
def Same (lo hi : Nat) (w w' : World) : Prop := ∀ b, lo ≤ b → b < hi → w'.heap[b]? = w.heap[b]?

theorem Same.refl (lo hi : Nat) (w : World) : Same lo hi w w := fun _ _ _ => rfl
theorem Same.trans {lo hi : Nat} {a b c : World} (h : Same lo hi a b) (k : Same lo hi b c) : Same lo hi a c := fun x h1 h2 => (k x h1 h2).trans (h x h1 h2)
theorem Same.mono {lo hi lo' hi' : Nat} {w w' : World} (h : Same lo hi w w') (h1 : lo ≤ lo') (h2 : hi' ≤ hi) : Same lo' hi' w w' := fun b a c => h b (by omega) (by omega)
theorem Same.of_below {lo hi B : Nat} {w w' : World} (h : Below B w w') (hB : hi ≤ B) : Same lo hi w w' := fun b _ h2 => h.block b (by omega)
theorem Same.drew {lo hi : Nat} {w w' : World} (h : Same lo hi w w') (n : Nat) : Same lo hi w (w'.drewN n) := h
theorem Same.cell {lo hi : Nat} {w w' : World} (h : Same lo hi w w') {p : Addr} (h1 : lo ≤ p.block) (h2 : p.block < hi) : w'.cell? p = w.cell? p := World.cell?_of_block (w := w) (h p.block h1 h2)

/-- A slice's value reads as these bytes: it is empty, or leads to a row of cells, in a block from lo on, below hi, that hold them. -/
structure Rd (lo hi : Nat) (w : World) (a : Option Addr) (n cap : Nat) (zs : List Int) : Prop where
  len : zs.length = n
  fits : n ≤ cap ∧ cap ≤ 9223372036854775807
  byte : ∀ i, 0 ≤ zs.getD i 0 ∧ zs.getD i 0 ≤ 255
  cells : n = 0 ∨ ∃ b off, a = some ⟨b, off, none⟩ ∧ lo ≤ b ∧ b < hi ∧ ∀ i, i < n → w.cell? ⟨b, off + i, none⟩ = some (.int .u8 (zs.getD i 0))

theorem Rd.tail {lo hi : Nat} {w : World} {b off n cap : Nat} {zs : List Int} (h : Rd lo hi w (some ⟨b, off, none⟩) n cap zs) (hn : 1 ≤ n) : Rd lo hi w (some ⟨b, off + 1, none⟩) (n - 1) (cap - 1) (zs.drop 1) := by
  obtain ⟨hl, ⟨hn, hm⟩, hby, hc⟩ := h
  refine ⟨by simp [hl], by omega, fun i => ?_, ?_⟩
  · have := hby (i + 1); simpa [List.getD] using this
  · rcases hc with h0 | ⟨b, off, e, hb, hb', hc⟩
    · exact .inl (by omega)
    · simp at e
      obtain ⟨rfl, rfl⟩ := e
      refine .inr ⟨_, _, rfl, hb, hb', fun i hi => ?_⟩
      have := hc (i + 1) (by omega)
      rw [Nat.add_right_comm, Nat.add_assoc]
      simpa [List.getD] using this

theorem Rd.none_of {lo hi : Nat} {w : World} {a : Option Addr} {cap : Nat} (h : cap ≤ 9223372036854775807) : Rd lo hi w a 0 cap [] := ⟨rfl, ⟨Nat.zero_le _, h⟩, by simp, .inl rfl⟩

theorem Rd.same {lo hi : Nat} {w w' : World} {a : Option Addr} {n cap : Nat} {zs : List Int} (h : Rd lo hi w a n cap zs) (hs : Same lo hi w w') : Rd lo hi w' a n cap zs := by
  obtain ⟨hl, hm, hby, hc⟩ := h
  refine ⟨hl, hm, hby, ?_⟩
  rcases hc with h0 | ⟨b, off, e, h1, h2, hc⟩
  · exact .inl h0
  · exact .inr ⟨b, off, e, h1, h2, fun i hi => (hs.cell (p := ⟨b, off + i, none⟩) h1 h2).trans (hc i hi)⟩

theorem Rd.mono {lo hi lo' hi' : Nat} {w : World} {a : Option Addr} {n cap : Nat} {zs : List Int} (h : Rd lo hi w a n cap zs) (h1 : lo' ≤ lo) (h2 : hi ≤ hi') : Rd lo' hi' w a n cap zs := by
  obtain ⟨hl, hm, hby, hc⟩ := h
  refine ⟨hl, hm, hby, ?_⟩
  rcases hc with h0 | ⟨b, off, e, h3, h4, hc⟩
  · exact .inl h0
  · exact .inr ⟨b, off, e, by omega, by omega, hc⟩

theorem Rd.below {lo hi : Nat} {w w' : World} {B : Nat} {a : Option Addr} {n cap : Nat} {zs : List Int} (h : Rd lo hi w a n cap zs) (hb : Below B w w') (hB : hi ≤ B) : Rd lo hi w' a n cap zs := h.same (Same.of_below hb hB)

/-- A row of the call's own: cap cells of type 5, none frozen, the first of them these bytes. -/
def Row (w : World) (g cap : Nat) (zs : List Int) : Prop := ∃ c : Array Value, w.heap[g]? = some (.cells c 5 (0, 0)) ∧ c.size = cap ∧ zs.length ≤ cap ∧ ∀ i, i < zs.length → c[i]? = some (.int .u8 (zs.getD i 0))

theorem Row.of_rowIs {w : World} {g : Nat} {zs : List Int} (h : w.rowIs g 5 zs.length (fun i => .int .u8 (zs.getD i 0))) : Row w g zs.length zs := by
  obtain ⟨c, h1, h2, h3⟩ := h
  exact ⟨c, h1, h2, Nat.le_refl _, h3⟩

theorem Row.cell {w : World} {g cap : Nat} {zs : List Int} (h : Row w g cap zs) {i : Nat} (hi : i < zs.length) : w.cell? ⟨g, i, none⟩ = some (.int .u8 (zs.getD i 0)) := by
  obtain ⟨c, hb, _, _, hc⟩ := h
  simp [World.cell?, hb, hc i hi]

theorem Row.frozen {w : World} {g cap : Nat} {zs : List Int} (h : Row w g cap zs) (i : Nat) : w.frozen? ⟨g, i, none⟩ = false := by
  obtain ⟨c, hb, _⟩ := h
  simp [World.frozen?, hb]

theorem Row.lt {w : World} {g cap : Nat} {zs : List Int} (h : Row w g cap zs) : g < w.heap.size := by
  obtain ⟨c, hb, _⟩ := h
  exact (Array.getElem?_eq_some_iff.1 hb).1

theorem Row.rd {lo hi : Nat} {w : World} {g n cap : Nat} {zs : List Int} (h : Row w g cap zs) (hl : zs.length = n) (hby : ∀ i, 0 ≤ zs.getD i 0 ∧ zs.getD i 0 ≤ 255) (hn : cap ≤ 9223372036854775807) (h1 : lo ≤ g) (h2 : g < hi) : Rd lo hi w (some ⟨g, 0, none⟩) n cap zs := by
  have hle : zs.length ≤ cap := by obtain ⟨c, _, _, h, _⟩ := h; exact h
  refine ⟨hl, ⟨by omega, hn⟩, hby, .inr ⟨g, 0, rfl, h1, h2, fun i hi => ?_⟩⟩
  rw [Nat.zero_add]
  exact Row.cell h (by omega)

theorem Row.of_block {w w' : World} {g cap : Nat} {zs : List Int} (h : Row w g cap zs) (e : w'.heap[g]? = w.heap[g]?) : Row w' g cap zs := by
  obtain ⟨c, hb, r⟩ := h
  exact ⟨c, e.trans hb, r⟩

theorem Row.below {w w' : World} {B g cap : Nat} {zs : List Int} (h : Row w g cap zs) (hb : Below B w w') (hg : g < B) : Row w' g cap zs := h.of_block (hb.block g hg)
theorem Row.same {lo hi : Nat} {w w' : World} {g cap : Nat} {zs : List Int} (h : Row w g cap zs) (hs : Same lo hi w w') (h1 : lo ≤ g) (h2 : g < hi) : Row w' g cap zs := h.of_block (hs g h1 h2)

theorem Row.drewOf {w : World} {g cap : Nat} {zs : List Int} (h : Row w g cap zs) : Row w.drew g cap zs := h
theorem Row.drewNOf {w : World} {g cap n : Nat} {zs : List Int} (h : Row w g cap zs) : Row (w.drewN n) g cap zs := h
theorem Row.setOf {w : World} {g cap : Nat} {zs : List Int} {a : Addr} {v : Value} (ha : g ≠ a.block) (h : Row w g cap zs) : Row (w.setCell a v) g cap zs := h.of_block (Below.heap_setCell _ _ _ _ ha)
theorem Row.allocOf {w : World} {g cap : Nat} {zs : List Int} {o : Obj} (h : Row w g cap zs) : Row (w.alloc o) g cap zs := h.of_block (Below.heap_alloc _ _ _ h.lt)

theorem row_drew (w : World) (g cap : Nat) (zs : List Int) : Row w.drew g cap zs = Row w g cap zs := rfl
theorem row_drewN (w : World) (g cap n : Nat) (zs : List Int) : Row (w.drewN n) g cap zs = Row w g cap zs := rfl
theorem row_set (w : World) (g cap : Nat) (zs : List Int) (b o : Nat) (v : Value) (h : g ≠ b) : Row (w.setCell ⟨b, o, none⟩ v) g cap zs = Row w g cap zs := by
  unfold Row; rw [Below.heap_setCell w ⟨b, o, none⟩ v g h]
theorem below_drewE (B : Nat) (x w : World) : Below B x w.drew = Below B x w := propext ⟨fun h => ⟨h.os, h.tape, h.output, h.size, h.block⟩, fun h => h.drew⟩
theorem below_set (B : Nat) (x w : World) (b o : Nat) (v : Value) (h : B ≤ b) : Below B x (w.setCell ⟨b, o, none⟩ v) = Below B x w := by
  refine propext ⟨fun k => ⟨k.os, k.tape, k.output, by have := k.size; simpa using this, fun i hi => ?_⟩, fun k => k.setCell h v⟩
  rw [← k.block i hi, Below.heap_setCell w ⟨b, o, none⟩ v i (by show i ≠ b; omega)]

/-! ### Marking cells, one number behind the other -/

def marks (w : World) : List (Addr × IntKind) → Int → World
  | [], _ => w
  | (a, kd) :: L, k => marks (w.setCell a (.int kd (kd.wrap k))) L (k + 1)

theorem marks_append (L M : List (Addr × IntKind)) : ∀ (w : World) (k : Int), marks w (L ++ M) k = marks (marks w L k) M (k + L.length) := by
  induction L with
  | nil => intro w k; simp [marks]
  | cons x L ih =>
    intro w k
    obtain ⟨a, kd⟩ := x
    simp only [List.cons_append, marks, ih, List.length_cons]
    congr 1
    omega

/-- Each is a cell that holds a number of its kind and may be written. -/
def LeafOk (w : World) (L : List (Addr × IntKind)) : Prop := ∀ x ∈ L, (∃ n, w.cell? x.1 = some (.int x.2 n)) ∧ w.frozen? x.1 = false

theorem LeafOk.set {w : World} {L : List (Addr × IntKind)} (h : LeafOk w L) {a : Addr} {kd : IntKind} {m : Int} (ha : w.cell? a = some (.int kd m)) (v : Int) : LeafOk (w.setCell a (.int kd v)) L := by
  intro x hx
  obtain ⟨⟨n, hn⟩, hf⟩ := h x hx
  refine ⟨?_, by simpa using hf⟩
  by_cases e : a = x.1
  · subst e
    rw [ha] at hn
    simp at hn
    exact ⟨v, by rw [World.cell?_setCell_same _ _ _ ha, hn.1]⟩
  · exact ⟨n, by rw [World.cell?_setCell_other _ _ _ _ e]; exact hn⟩

theorem LeafOk.marks {L : List (Addr × IntKind)} : ∀ {w : World} {M : List (Addr × IntKind)}, LeafOk w L → LeafOk w M → ∀ k, LeafOk (marks w L k) M ∧ LeafOk (marks w L k) L := by
  induction L with
  | nil => intro w M h1 h2 k; exact ⟨h2, h1⟩
  | cons x L ih =>
    intro w M h1 h2 k
    obtain ⟨a, kd⟩ := x
    obtain ⟨⟨m, hm⟩, hf⟩ := h1 (a, kd) (by simp)
    have h1' := h1.set hm (kd.wrap k)
    have h2' := h2.set hm (kd.wrap k)
    refine ⟨(ih (fun x hx => h1' x (by simp [hx])) h2' (k + 1)).1, ?_⟩
    exact (ih (fun x hx => h1' x (by simp [hx])) h1' (k + 1)).1

/-- The marks are there, from k on. -/
def Held (w : World) : List (Addr × IntKind) → Int → Prop
  | [], _ => True
  | (a, kd) :: L, k => w.cell? a = some (.int kd (kd.wrap k)) ∧ Held w L (k + 1)

theorem held_append {w : World} {L M : List (Addr × IntKind)} : ∀ {k : Int}, Held w (L ++ M) k ↔ Held w L k ∧ Held w M (k + L.length) := by
  induction L with
  | nil => intro k; simp [Held]
  | cons x L ih =>
    intro k
    obtain ⟨a, kd⟩ := x
    simp only [List.cons_append, Held, ih, List.length_cons, and_assoc]
    rw [show k + 1 + (L.length : Int) = k + ((L.length + 1 : Nat) : Int) from by omega]

theorem cell_marks_other {L : List (Addr × IntKind)} : ∀ {w : World} {p : Addr}, (∀ x ∈ L, x.1 ≠ p) → ∀ k, (marks w L k).cell? p = w.cell? p := by
  induction L with
  | nil => intro w p _ k; rfl
  | cons x L ih =>
    intro w p h k
    obtain ⟨a, kd⟩ := x
    rw [marks, ih (fun x hx => h x (by simp [hx]))]
    exact World.cell?_setCell_other _ _ _ _ (h (a, kd) (by simp))

theorem held_marks {L : List (Addr × IntKind)} : ∀ {w : World}, LeafOk w L → (L.map (·.1)).Nodup → ∀ k, Held (marks w L k) L k := by
  induction L with
  | nil => intro w _ _ k; trivial
  | cons x L ih =>
    intro w hL hN k
    obtain ⟨a, kd⟩ := x
    obtain ⟨⟨m, hm⟩, hf⟩ := hL (a, kd) (by simp)
    have h1' := hL.set hm (kd.wrap k)
    simp only [List.map_cons, List.nodup_cons] at hN
    refine ⟨?_, ih (fun x hx => h1' x (by simp [hx])) hN.2 (k + 1)⟩
    rw [marks, cell_marks_other (fun x hx e => hN.1 (by rw [← e]; exact List.mem_map_of_mem hx))]
    exact World.cell?_setCell_same _ _ _ hm

theorem Held.same {lo hi : Nat} {w w' : World} (hs : Same lo hi w w') {L : List (Addr × IntKind)} : ∀ {k : Int}, (∀ x ∈ L, lo ≤ x.1.block ∧ x.1.block < hi) → Held w L k → Held w' L k := by
  induction L with
  | nil => intro k _ _; trivial
  | cons x L ih =>
    intro k hb h
    obtain ⟨a, kd⟩ := x
    have hb' := hb (a, kd) (by simp)
    exact ⟨(hs.cell hb'.1 hb'.2).trans h.1, ih (fun x hx => hb x (by simp [hx])) h.2⟩

/-- A marking turns no block but those of its cells. -/
theorem below_marks {B : Nat} {L : List (Addr × IntKind)} : ∀ {a w : World}, Below B a w → (∀ x ∈ L, B ≤ x.1.block) → ∀ k, Below B a (marks w L k) := by
  induction L with
  | nil => intro a w h _ k; exact h
  | cons x L ih =>
    intro a w h hb k
    obtain ⟨p, kd⟩ := x
    exact ih (h.setCell (hb (p, kd) (by simp)) _) (fun x hx => hb x (by simp [hx])) (k + 1)

theorem same_marks {lo hi : Nat} {L : List (Addr × IntKind)} : ∀ {w : World}, (∀ x ∈ L, x.1.block < lo ∨ hi ≤ x.1.block) → ∀ k, Same lo hi w (marks w L k) := by
  induction L with
  | nil => intro w _ k; exact Same.refl _ _ _
  | cons x L ih =>
    intro w hb k
    obtain ⟨p, kd⟩ := x
    have h1 := hb (p, kd) (by simp)
    refine Same.trans (fun b hb1 hb2 => ?_) (ih (fun x hx => hb x (by simp [hx])) (k + 1))
    exact Below.heap_setCell _ _ _ _ (by simp only at h1; omega)

theorem size_marks {L : List (Addr × IntKind)} : ∀ {w : World} (k : Int), (marks w L k).heap.size = w.heap.size := by
  induction L with
  | nil => intro w k; rfl
  | cons x L ih =>
    intro w k
    obtain ⟨p, kd⟩ := x
    rw [marks, ih]
    simp

theorem wrap64_id {k : Int} (h : 0 ≤ k ∧ k ≤ 4611686018427387904) : IntKind.i64.wrap k = k := by
  simp [IntKind.wrap, IntKind.bits, IntKind.signed]
  omega

end Go.Proofs.Ythojlfcahhjfaaa
