/- Several texts in one: Mem, ConMem, Rounds, LawBox. -/
import Derived.WalkKit
import Derived.WalkSpells
import Derived.WalkLawsBesides
import Derived.Deep.OwnRows
import Derived.RangeFuncNested
import Derived.RangeFuncCalls
import Derived.OwnWalkIn
import Derived.Shelf.RegionOpen
import Derived.Laws.AppendOwn
import Derived.RangeFuncRecord
namespace Go.Proofs.YtckhjoancfbkfaaGreat

section
open Go.RowKit

theorem rb {a b : Bool} (h : a = b) : Ending.returned (.bool a) = .returned (.bool b) := by rw [h]
theorem ri {a b : Int} (h : a = b) : Ending.returned (.int .i64 a) = .returned (.int .i64 b) := by rw [h]

theorem drew_add (w : World) (m n : Nat) : (w.drewN m).drewN n = w.drewN (m + n) := by
  induction n with
  | zero => rfl
  | succ n ih => show ((w.drewN m).drewN n).drew = _; rw [ih]; rfl

/-- The blocks from lo on, below hi, are as they were. -/
def Same (lo hi : Nat) (w w' : World) : Prop := ∀ b, lo ≤ b → b < hi → w'.heap[b]? = w.heap[b]?

theorem Same.refl (lo hi : Nat) (w : World) : Same lo hi w w := fun _ _ _ => rfl
theorem Same.trans {lo hi : Nat} {a b c : World} (h : Same lo hi a b) (k : Same lo hi b c) : Same lo hi a c := fun x h1 h2 => (k x h1 h2).trans (h x h1 h2)
theorem Same.mono {lo hi lo' hi' : Nat} {w w' : World} (h : Same lo hi w w') (h1 : lo ≤ lo') (h2 : hi' ≤ hi) : Same lo' hi' w w' := fun b a c => h b (by omega) (by omega)
theorem Same.of_below {lo hi B : Nat} {w w' : World} (h : Below B w w') (hB : hi ≤ B) : Same lo hi w w' := fun b _ h2 => h.block b (by omega)
theorem Same.drew {lo hi : Nat} {w w' : World} (h : Same lo hi w w') (n : Nat) : Same lo hi w (w'.drewN n) := h
theorem Same.cell {lo hi : Nat} {w w' : World} (h : Same lo hi w w') {p : Addr} (h1 : lo ≤ p.block) (h2 : p.block < hi) : w'.cell? p = w.cell? p := World.cell?_of_block (w := w) (h p.block h1 h2)

/-- A slice's value reads as these bytes: it is empty, or leads to a row of cells, in a block from lo on, below hi, that hold them. -/
structure Rd (lo hi : Nat) (w : World) (a : Option Addr) (n cap : Nat) (zs : List Int) : Prop where
  len : zs.length = n
  fits : n ≤ cap ∧ cap ≤ 9223372036854775807
  byte : ∀ i, 0 ≤ zs.getD i 0 ∧ zs.getD i 0 ≤ 255
  cells : n = 0 ∨ ∃ b off, a = some ⟨b, off, none⟩ ∧ lo ≤ b ∧ b < hi ∧ ∀ i, i < n → w.cell? ⟨b, off + i, none⟩ = some (.int .u8 (zs.getD i 0))

theorem Rd.tail {lo hi : Nat} {w : World} {b off n cap : Nat} {zs : List Int} (h : Rd lo hi w (some ⟨b, off, none⟩) n cap zs) (hn : 1 ≤ n) : Rd lo hi w (some ⟨b, off + 1, none⟩) (n - 1) (cap - 1) (zs.drop 1) := by
  obtain ⟨hl, ⟨hn, hm⟩, hby, hc⟩ := h
  refine ⟨by simp [hl], by omega, fun i => ?_, ?_⟩
  · have := hby (i + 1); simpa [List.getD] using this
  · rcases hc with h0 | ⟨b, off, e, hb, hb', hc⟩
    · exact .inl (by omega)
    · simp at e
      obtain ⟨rfl, rfl⟩ := e
      refine .inr ⟨_, _, rfl, hb, hb', fun i hi => ?_⟩
      have := hc (i + 1) (by omega)
      rw [Nat.add_right_comm, Nat.add_assoc]
      simpa [List.getD] using this

theorem Rd.none_of {lo hi : Nat} {w : World} {a : Option Addr} {cap : Nat} (h : cap ≤ 9223372036854775807) : Rd lo hi w a 0 cap [] := ⟨rfl, ⟨Nat.zero_le _, h⟩, by simp, .inl rfl⟩

theorem Rd.same {lo hi : Nat} {w w' : World} {a : Option Addr} {n cap : Nat} {zs : List Int} (h : Rd lo hi w a n cap zs) (hs : Same lo hi w w') : Rd lo hi w' a n cap zs := by
  obtain ⟨hl, hm, hby, hc⟩ := h
  refine ⟨hl, hm, hby, ?_⟩
  rcases hc with h0 | ⟨b, off, e, h1, h2, hc⟩
  · exact .inl h0
  · exact .inr ⟨b, off, e, h1, h2, fun i hi => (hs.cell (p := ⟨b, off + i, none⟩) h1 h2).trans (hc i hi)⟩

theorem Rd.mono {lo hi lo' hi' : Nat} {w : World} {a : Option Addr} {n cap : Nat} {zs : List Int} (h : Rd lo hi w a n cap zs) (h1 : lo' ≤ lo) (h2 : hi ≤ hi') : Rd lo' hi' w a n cap zs := by
  obtain ⟨hl, hm, hby, hc⟩ := h
  refine ⟨hl, hm, hby, ?_⟩
  rcases hc with h0 | ⟨b, off, e, h3, h4, hc⟩
  · exact .inl h0
  · exact .inr ⟨b, off, e, by omega, by omega, hc⟩

theorem Rd.below {lo hi : Nat} {w w' : World} {B : Nat} {a : Option Addr} {n cap : Nat} {zs : List Int} (h : Rd lo hi w a n cap zs) (hb : Below B w w') (hB : hi ≤ B) : Rd lo hi w' a n cap zs := h.same (Same.of_below hb hB)

/-- A row of the call's own: cap cells of type 5, none frozen, the first of them these bytes. -/
def Row (w : World) (g cap : Nat) (zs : List Int) : Prop := ∃ c : Array Value, w.heap[g]? = some (.cells c 5 (0, 0)) ∧ c.size = cap ∧ zs.length ≤ cap ∧ ∀ i, i < zs.length → c[i]? = some (.int .u8 (zs.getD i 0))

theorem Row.of_rowIs {w : World} {g : Nat} {zs : List Int} (h : w.rowIs g 5 zs.length (fun i => .int .u8 (zs.getD i 0))) : Row w g zs.length zs := by
  obtain ⟨c, h1, h2, h3⟩ := h
  exact ⟨c, h1, h2, Nat.le_refl _, h3⟩

theorem Row.cell {w : World} {g cap : Nat} {zs : List Int} (h : Row w g cap zs) {i : Nat} (hi : i < zs.length) : w.cell? ⟨g, i, none⟩ = some (.int .u8 (zs.getD i 0)) := by
  obtain ⟨c, hb, _, _, hc⟩ := h
  simp [World.cell?, hb, hc i hi]

theorem Row.frozen {w : World} {g cap : Nat} {zs : List Int} (h : Row w g cap zs) (i : Nat) : w.frozen? ⟨g, i, none⟩ = false := by
  obtain ⟨c, hb, _⟩ := h
  simp [World.frozen?, hb]

theorem Row.lt {w : World} {g cap : Nat} {zs : List Int} (h : Row w g cap zs) : g < w.heap.size := by
  obtain ⟨c, hb, _⟩ := h
  exact (Array.getElem?_eq_some_iff.1 hb).1

theorem Row.rd {lo hi : Nat} {w : World} {g n cap : Nat} {zs : List Int} (h : Row w g cap zs) (hl : zs.length = n) (hby : ∀ i, 0 ≤ zs.getD i 0 ∧ zs.getD i 0 ≤ 255) (hn : cap ≤ 9223372036854775807) (h1 : lo ≤ g) (h2 : g < hi) : Rd lo hi w (some ⟨g, 0, none⟩) n cap zs := by
  have hle : zs.length ≤ cap := by obtain ⟨c, _, _, h, _⟩ := h; exact h
  refine ⟨hl, ⟨by omega, hn⟩, hby, .inr ⟨g, 0, rfl, h1, h2, fun i hi => ?_⟩⟩
  rw [Nat.zero_add]
  exact Row.cell h (by omega)

theorem Row.of_block {w w' : World} {g cap : Nat} {zs : List Int} (h : Row w g cap zs) (e : w'.heap[g]? = w.heap[g]?) : Row w' g cap zs := by
  obtain ⟨c, hb, r⟩ := h
  exact ⟨c, e.trans hb, r⟩

theorem Row.below {w w' : World} {B g cap : Nat} {zs : List Int} (h : Row w g cap zs) (hb : Below B w w') (hg : g < B) : Row w' g cap zs := h.of_block (hb.block g hg)
theorem Row.same {lo hi : Nat} {w w' : World} {g cap : Nat} {zs : List Int} (h : Row w g cap zs) (hs : Same lo hi w w') (h1 : lo ≤ g) (h2 : g < hi) : Row w' g cap zs := h.of_block (hs g h1 h2)

theorem Row.drewNOf {w : World} {g cap n : Nat} {zs : List Int} (h : Row w g cap zs) : Row (w.drewN n) g cap zs := h
theorem Row.setOf {w : World} {g cap : Nat} {zs : List Int} {a : Addr} {v : Value} (ha : g ≠ a.block) (h : Row w g cap zs) : Row (w.setCell a v) g cap zs := h.of_block (Below.heap_setCell _ _ _ _ ha)
theorem Row.allocOf {w : World} {g cap : Nat} {zs : List Int} {o : Obj} (h : Row w g cap zs) : Row (w.alloc o) g cap zs := h.of_block (Below.heap_alloc _ _ _ h.lt)

theorem row_drew (w : World) (g cap : Nat) (zs : List Int) : Row w.drew g cap zs = Row w g cap zs := rfl
theorem row_set (w : World) (g cap : Nat) (zs : List Int) (b o : Nat) (v : Value) (h : g ≠ b) : Row (w.setCell ⟨b, o, none⟩ v) g cap zs = Row w g cap zs := by
  unfold Row; rw [Below.heap_setCell w ⟨b, o, none⟩ v g h]
theorem below_drewE (B : Nat) (x w : World) : Below B x w.drew = Below B x w := propext ⟨fun h => ⟨h.os, h.tape, h.output, h.size, h.block⟩, fun h => h.drew⟩
theorem below_set (B : Nat) (x w : World) (b o : Nat) (v : Value) (h : B ≤ b) : Below B x (w.setCell ⟨b, o, none⟩ v) = Below B x w := by
  refine propext ⟨fun k => ⟨k.os, k.tape, k.output, by have := k.size; simpa using this, fun i hi => ?_⟩, fun k => k.setCell h v⟩
  rw [← k.block i hi, Below.heap_setCell w ⟨b, o, none⟩ v i (by show i ≠ b; omega)]

/-! ### Marking cells, one number behind the other -/

def marks (w : World) : List (Addr × IntKind) → Int → World
  | [], _ => w
  | (a, kd) :: L, k => marks (w.setCell a (.int kd (kd.wrap k))) L (k + 1)

theorem marks_append (L M : List (Addr × IntKind)) : ∀ (w : World) (k : Int), marks w (L ++ M) k = marks (marks w L k) M (k + L.length) := by
  induction L with
  | nil => intro w k; simp [marks]
  | cons x L ih =>
    intro w k
    obtain ⟨a, kd⟩ := x
    simp only [List.cons_append, marks, ih, List.length_cons]
    congr 1
    omega

/-- Each is a cell that holds a number of its kind and may be written. -/
def LeafOk (w : World) (L : List (Addr × IntKind)) : Prop := ∀ x ∈ L, (∃ n, w.cell? x.1 = some (.int x.2 n)) ∧ w.frozen? x.1 = false

theorem LeafOk.set {w : World} {L : List (Addr × IntKind)} (h : LeafOk w L) {a : Addr} {kd : IntKind} {m : Int} (ha : w.cell? a = some (.int kd m)) (v : Int) : LeafOk (w.setCell a (.int kd v)) L := by
  intro x hx
  obtain ⟨⟨n, hn⟩, hf⟩ := h x hx
  refine ⟨?_, by simpa using hf⟩
  by_cases e : a = x.1
  · subst e
    rw [ha] at hn
    simp at hn
    exact ⟨v, by rw [World.cell?_setCell_same _ _ _ ha, hn.1]⟩
  · exact ⟨n, by rw [World.cell?_setCell_other _ _ _ _ e]; exact hn⟩

theorem LeafOk.marks {L : List (Addr × IntKind)} : ∀ {w : World} {M : List (Addr × IntKind)}, LeafOk w L → LeafOk w M → ∀ k, LeafOk (marks w L k) M ∧ LeafOk (marks w L k) L := by
  induction L with
  | nil => intro w M h1 h2 k; exact ⟨h2, h1⟩
  | cons x L ih =>
    intro w M h1 h2 k
    obtain ⟨a, kd⟩ := x
    obtain ⟨⟨m, hm⟩, hf⟩ := h1 (a, kd) (by simp)
    have h1' := h1.set hm (kd.wrap k)
    have h2' := h2.set hm (kd.wrap k)
    refine ⟨(ih (fun x hx => h1' x (by simp [hx])) h2' (k + 1)).1, ?_⟩
    exact (ih (fun x hx => h1' x (by simp [hx])) h1' (k + 1)).1

/-- The marks are there, from k on. -/
def Held (w : World) : List (Addr × IntKind) → Int → Prop
  | [], _ => True
  | (a, kd) :: L, k => w.cell? a = some (.int kd (kd.wrap k)) ∧ Held w L (k + 1)

theorem held_append {w : World} {L M : List (Addr × IntKind)} : ∀ {k : Int}, Held w (L ++ M) k ↔ Held w L k ∧ Held w M (k + L.length) := by
  induction L with
  | nil => intro k; simp [Held]
  | cons x L ih =>
    intro k
    obtain ⟨a, kd⟩ := x
    simp only [List.cons_append, Held, ih, List.length_cons, and_assoc]
    rw [show k + 1 + (L.length : Int) = k + ((L.length + 1 : Nat) : Int) from by omega]

theorem cell_marks_other {L : List (Addr × IntKind)} : ∀ {w : World} {p : Addr}, (∀ x ∈ L, x.1 ≠ p) → ∀ k, (marks w L k).cell? p = w.cell? p := by
  induction L with
  | nil => intro w p _ k; rfl
  | cons x L ih =>
    intro w p h k
    obtain ⟨a, kd⟩ := x
    rw [marks, ih (fun x hx => h x (by simp [hx]))]
    exact World.cell?_setCell_other _ _ _ _ (h (a, kd) (by simp))

theorem held_marks {L : List (Addr × IntKind)} : ∀ {w : World}, LeafOk w L → (L.map (·.1)).Nodup → ∀ k, Held (marks w L k) L k := by
  induction L with
  | nil => intro w _ _ k; trivial
  | cons x L ih =>
    intro w hL hN k
    obtain ⟨a, kd⟩ := x
    obtain ⟨⟨m, hm⟩, hf⟩ := hL (a, kd) (by simp)
    have h1' := hL.set hm (kd.wrap k)
    simp only [List.map_cons, List.nodup_cons] at hN
    refine ⟨?_, ih (fun x hx => h1' x (by simp [hx])) hN.2 (k + 1)⟩
    rw [marks, cell_marks_other (fun x hx e => hN.1 (by rw [← e]; exact List.mem_map_of_mem hx))]
    exact World.cell?_setCell_same _ _ _ hm

theorem Held.same {lo hi : Nat} {w w' : World} (hs : Same lo hi w w') {L : List (Addr × IntKind)} : ∀ {k : Int}, (∀ x ∈ L, lo ≤ x.1.block ∧ x.1.block < hi) → Held w L k → Held w' L k := by
  induction L with
  | nil => intro k _ _; trivial
  | cons x L ih =>
    intro k hb h
    obtain ⟨a, kd⟩ := x
    have hb' := hb (a, kd) (by simp)
    exact ⟨(hs.cell hb'.1 hb'.2).trans h.1, ih (fun x hx => hb x (by simp [hx])) h.2⟩

/-- A marking turns no block but those of its cells. -/
theorem below_marks {B : Nat} {L : List (Addr × IntKind)} : ∀ {a w : World}, Below B a w → (∀ x ∈ L, B ≤ x.1.block) → ∀ k, Below B a (marks w L k) := by
  induction L with
  | nil => intro a w h _ k; exact h
  | cons x L ih =>
    intro a w h hb k
    obtain ⟨p, kd⟩ := x
    exact ih (h.setCell (hb (p, kd) (by simp)) _) (fun x hx => hb x (by simp [hx])) (k + 1)

theorem same_marks {lo hi : Nat} {L : List (Addr × IntKind)} : ∀ {w : World}, (∀ x ∈ L, x.1.block < lo ∨ hi ≤ x.1.block) → ∀ k, Same lo hi w (marks w L k) := by
  induction L with
  | nil => intro w _ k; exact Same.refl _ _ _
  | cons x L ih =>
    intro w hb k
    obtain ⟨p, kd⟩ := x
    have h1 := hb (p, kd) (by simp)
    refine Same.trans (fun b hb1 hb2 => ?_) (ih (fun x hx => hb x (by simp [hx])) (k + 1))
    exact Below.heap_setCell _ _ _ _ (by simp only at h1; omega)

theorem size_marks {L : List (Addr × IntKind)} : ∀ {w : World} (k : Int), (marks w L k).heap.size = w.heap.size := by
  induction L with
  | nil => intro w k; rfl
  | cons x L ih =>
    intro w k
    obtain ⟨p, kd⟩ := x
    rw [marks, ih]
    simp

theorem wrap64_id {k : Int} (h : 0 ≤ k ∧ k ≤ 4611686018427387904) : IntKind.i64.wrap k = k := by
  simp [IntKind.wrap, IntKind.bits, IntKind.signed]
  omega
end

section
open Go.RowKit

/-- A concept: its kind, its name, its role, its kids. -/
inductive CN where
  | mk (kind : Int) (name role : List Int) (kids : List CN)

def CN.kind : CN → Int | .mk k _ _ _ => k
def CN.name : CN → List Int | .mk _ n _ _ => n
def CN.role : CN → List Int | .mk _ _ r _ => r
def CN.kids : CN → List CN | .mk _ _ _ ks => ks
def CN.zero : CN := .mk 0 [] [] []
instance : Inhabited CN := ⟨CN.zero⟩

mutual
/-- How much it holds beyond itself. -/
def CN.bulk : CN → Nat
  | .mk _ n r ks => n.length + r.length + bulks ks
def bulks : List CN → Nat
  | [] => 0
  | c :: cs => 1 + c.bulk + bulks cs
end

theorem CN.bulk_eq (c : CN) : c.bulk = c.name.length + c.role.length + bulks c.kids := by
  cases c; rw [CN.bulk]; rfl

theorem bulks_append (xs ys : List CN) : bulks (xs ++ ys) = bulks xs + bulks ys := by
  induction xs with
  | nil => simp [bulks]
  | cons x xs ih => simp only [List.cons_append, bulks, ih]; omega

theorem take_succ_getD {α : Type} (l : List α) (d : α) (k : Nat) (h : k < l.length) : l.take (k + 1) = l.take k ++ [l.getD k d] := by
  rw [List.take_succ_eq_append_getElem h]
  simp [List.getD, h]

theorem bulks_take_succ (cs : List CN) (k : Nat) (h : k < cs.length) : bulks (cs.take (k + 1)) = bulks (cs.take k) + 1 + (cs.getD k CN.zero).bulk := by
  rw [take_succ_getD cs CN.zero k h, bulks_append]
  simp only [bulks]
  omega

theorem bulks_take_le (cs : List CN) (k : Nat) : bulks (cs.take k) ≤ bulks cs := by
  have := bulks_append (cs.take k) (cs.drop k)
  rw [List.take_append_drop] at this
  omega

theorem getD_bulk_le (cs : List CN) (k : Nat) (h : k < cs.length) : (cs.getD k CN.zero).bulk + 1 ≤ bulks cs := by
  have := bulks_take_succ cs k h
  have := bulks_take_le cs (k + 1)
  omega

/-- A slice's value reads as these, each of four cells, 'R' saying what four cells read as. -/
structure RdL (R : Value → CN → Prop) (lo hi : Nat) (w : World) (a : Option Addr) (n cap : Nat) (cs : List CN) : Prop where
  len : cs.length = n
  fits : n ≤ cap ∧ cap ≤ 9223372036854775807
  cells : n = 0 ∨ ∃ b off, a = some ⟨b, off, none⟩ ∧ lo ≤ b ∧ b < hi ∧ ∀ i, i < n → ∃ v0 v1 v2 v3,
    w.cell? ⟨b, off + i * 4, none⟩ = some v0 ∧ w.cell? ⟨b, off + i * 4 + 1, none⟩ = some v1 ∧ w.cell? ⟨b, off + i * 4 + 2, none⟩ = some v2 ∧ w.cell? ⟨b, off + i * 4 + 3, none⟩ = some v3 ∧
    R (.agg #[v0, v1, v2, v3]) (cs.getD i CN.zero)

/-- A value reads as this concept, in at most d steps. -/
def RdC (lo hi : Nat) (w : World) : Nat → Value → CN → Prop
  | 0, _, _ => False
  | d + 1, v, c => ∃ na nn nc ra rn rc ka kn kc, v = .agg #[.int .i64 c.kind, .slice na nn nc, .slice ra rn rc, .slice ka kn kc] ∧
      Rd lo hi w na nn nc c.name ∧ Rd lo hi w ra rn rc c.role ∧ RdL (RdC lo hi w d) lo hi w ka kn kc c.kids

theorem RdL.imp {R S : Value → CN → Prop} {lo hi lo' hi' : Nat} {w w' : World} {a : Option Addr} {n cap : Nat} {cs : List CN} (h : RdL R lo hi w a n cap cs)
    (hRS : ∀ v c, R v c → S v c) (hs : Same lo hi w w') (h1 : lo' ≤ lo) (h2 : hi ≤ hi') : RdL S lo' hi' w' a n cap cs := by
  obtain ⟨hl, hm, hc⟩ := h
  refine ⟨hl, hm, ?_⟩
  rcases hc with h0 | ⟨b, off, e, q1, q2, hc⟩
  · exact .inl h0
  · refine .inr ⟨b, off, e, by omega, by omega, fun i hi => ?_⟩
    obtain ⟨v0, v1, v2, v3, c0, c1, c2, c3, hr⟩ := hc i hi
    exact ⟨v0, v1, v2, v3, (hs.cell (p := ⟨b, _, none⟩) q1 q2).trans c0, (hs.cell (p := ⟨b, _, none⟩) q1 q2).trans c1, (hs.cell (p := ⟨b, _, none⟩) q1 q2).trans c2, (hs.cell (p := ⟨b, _, none⟩) q1 q2).trans c3, hRS _ _ hr⟩

theorem RdC.same {lo hi : Nat} {w w' : World} (hs : Same lo hi w w') : ∀ {d : Nat} {v : Value} {c : CN}, RdC lo hi w d v c → RdC lo hi w' d v c := by
  intro d
  induction d with
  | zero => intro v c h; exact h
  | succ d ih =>
    intro v c h
    obtain ⟨na, nn, nc, ra, rn, rc, ka, kn, kc, hv, h1, h2, h3⟩ := h
    exact ⟨na, nn, nc, ra, rn, rc, ka, kn, kc, hv, h1.same hs, h2.same hs, h3.imp (fun v c h => ih h) hs (Nat.le_refl _) (Nat.le_refl _)⟩

theorem RdC.mono {lo hi lo' hi' : Nat} {w : World} (q1 : lo' ≤ lo) (q2 : hi ≤ hi') : ∀ {d : Nat} {v : Value} {c : CN}, RdC lo hi w d v c → RdC lo' hi' w d v c := by
  intro d
  induction d with
  | zero => intro v c h; exact h
  | succ d ih =>
    intro v c h
    obtain ⟨na, nn, nc, ra, rn, rc, ka, kn, kc, hv, h1, h2, h3⟩ := h
    exact ⟨na, nn, nc, ra, rn, rc, ka, kn, kc, hv, h1.mono q1 q2, h2.mono q1 q2, h3.imp (fun v c h => ih h) (Same.refl _ _ _) q1 q2⟩

theorem RdC.below {lo hi B : Nat} {w w' : World} {d : Nat} {v : Value} {c : CN} (h : RdC lo hi w d v c) (hb : Below B w w') (hB : hi ≤ B) : RdC lo hi w' d v c := h.same (Same.of_below hb hB)

theorem RdL.same {lo hi d : Nat} {w w' : World} {a : Option Addr} {n cap : Nat} {cs : List CN} (h : RdL (RdC lo hi w d) lo hi w a n cap cs) (hs : Same lo hi w w') : RdL (RdC lo hi w' d) lo hi w' a n cap cs :=
  h.imp (fun _ _ h => h.same hs) hs (Nat.le_refl _) (Nat.le_refl _)

theorem RdL.below {lo hi d B : Nat} {w w' : World} {a : Option Addr} {n cap : Nat} {cs : List CN} (h : RdL (RdC lo hi w d) lo hi w a n cap cs) (hb : Below B w w') (hB : hi ≤ B) : RdL (RdC lo hi w' d) lo hi w' a n cap cs := h.same (Same.of_below hb hB)

/-- No cell of these blocks is frozen. -/
def Free (lo hi : Nat) (w : World) : Prop := ∀ b, lo ≤ b → b < hi → ∀ o, w.frozen? ⟨b, o, none⟩ = false

theorem Free.same {lo hi : Nat} {w w' : World} (h : Free lo hi w) (hs : Same lo hi w w') : Free lo hi w' := by
  intro b h1 h2 o
  exact (World.frozen?_of_block (w := w) (hs b h1 h2)).trans (h b h1 h2 o)

theorem Free.mono {lo hi lo' hi' : Nat} {w : World} (h : Free lo hi w) (q1 : lo ≤ lo') (q2 : hi' ≤ hi) : Free lo' hi' w := fun b h1 h2 o => h b (by omega) (by omega) o

theorem Free.join {lo mid hi : Nat} {w : World} (h : Free lo mid w) (k : Free mid hi w) : Free lo hi w := by
  intro b h1 h2 o
  by_cases e : b < mid
  · exact h b h1 e o
  · exact k b (by omega) h2 o

theorem Free.set {lo hi : Nat} {w : World} (h : Free lo hi w) (a : Addr) (v : Value) : Free lo hi (w.setCell a v) := by
  intro b h1 h2 o
  have := h b h1 h2 o
  simpa using this

theorem Free.one (w : World) (c : Array Value) (t : TypeId) : Free w.heap.size (w.heap.size + 1) (w.alloc (.cells c t)) := by
  intro b h1 h2 o
  have e : b = w.heap.size := by omega
  subst e
  have hb : (w.alloc (.cells c t)).heap[w.heap.size]? = some (.cells c t) := by
    show (w.heap.push _)[w.heap.size]? = _
    simp
  unfold World.frozen?
  simp only []
  rw [hb]
  simp

theorem Free.alloc {lo : Nat} {w : World} (h : Free lo w.heap.size w) (c : Array Value) (t : TypeId) : Free lo (w.heap.size + 1) (w.alloc (.cells c t)) :=
  (h.same (Same.of_below ((Below.refl w.heap.size w).alloc (Nat.le_refl _) _) (Nat.le_refl _))).join (Free.one w c t)

theorem Free.nil (w : World) (lo : Nat) : Free lo lo w := fun b h1 h2 => absurd h2 (by omega)

/-- What is free up to the heap's end stays so behind a call that turned nothing below, and whose own blocks are free. -/
theorem Free.next {lo : Nat} {w w' : World} (h : Free lo w.heap.size w) (hb : Below w.heap.size w w') (k : Free w.heap.size w'.heap.size w') : Free lo w'.heap.size w' :=
  (h.same (Same.of_below hb (Nat.le_refl _))).join k
end

section
open Go.RowKit

theorem uponIn_round_iff {F : Fence} {l n : Nat} {P : Program} {o : Oper} {a : Act} {next : Act → World → Prop} {Q : Exit → Act → World → Prop} {r : Result Next} :
    o.uponIn F n P a next Q r → o.uponIn (F.inRound l) n P a next Q r := by
  intro h
  cases r with
  | ok x w => cases x <;> exact h
  | halt x w => cases x <;> exact h

def plainOp (o : Oper) : Bool := match o.op with | .defer _ => false | _ => true

theorem plainOp_spec {o : Oper} (h : plainOp o = true) : ∀ c, o.op ≠ .defer c := by
  intro c e
  unfold plainOp at h
  rw [e] at h
  simp at h

theorem wpIn_op_round {F : Fence} {l n : Nat} {P : Program} {o : Oper} {a : Act} {w : World} {K : Act → World → Prop} {Q : Exit → Act → World → Prop} (hro : F.round = none) (hp : plainOp o = true) (h : o.wpIn F n P a w K Q) : o.wpIn (F.inRound l) n P a w K Q := by
  unfold Oper.wpIn at *
  refine ⟨h.1, uponIn_round_iff ?_⟩
  have h2 := h.2
  rw [hro, Oper.semAt_none] at h2
  rw [Fence.inRound_round, Oper.semAt_some l _ _ (plainOp_spec hp)]
  exact h2

theorem wpAnyIn_round {F : Fence} {l n : Nat} {P : Program} {md : Region.Mode} {ops : Array Oper} {Q : Exit → Act → World → Prop} (hro : F.round = none) (hp : ∀ (i : Nat) (o : Oper), ops[i]? = some o → plainOp o = true) :
    ∀ (fuel : Nat) (listed : Array Bool) (a : Act) (w : World), wpAnyIn F n P md ops Q fuel listed a w → wpAnyIn (F.inRound l) n P md ops Q fuel listed a w
  | 0, _, _, _, h => h
  | fuel + 1, listed, a, w, h => by
    refine ⟨h.1, fun i hi => ?_⟩
    have h2 := h.2 i hi
    have h3 := wpOpIn_mono (K' := wpAnyIn (F.inRound l) n P md ops Q fuel (listed.setIfInBounds i true)) (fun a w q => wpAnyIn_round hro hp fuel _ a w q) h2
    unfold wpOpIn at *
    split
    · rename_i ho; simp only [ho] at h3; exact h3
    · rename_i o ho
      simp only [ho] at h3
      split
      · rename_i hw; simp only [hw, if_true] at h3; exact wpIn_op_round hro (hp i o ho) h3
      · rename_i hw; simp only [hw] at h3; exact h3

theorem plain_all {ops : Array Oper} (h : ops.toList.all plainOp = true) : ∀ (i : Nat) (o : Oper), ops[i]? = some o → plainOp o = true := by
  intro i o ho
  refine List.all_eq_true.1 h o ?_
  have := Array.getElem?_eq_some_iff.1 ho
  obtain ⟨hi, e⟩ := this
  rw [← e]
  simp

theorem region_round {l n : Nat} {P : Program} {id : Nat} {ops : Array Oper} {Q : Exit → Act → World → Prop} {a : Act} {w : World} (hm : P.follows .mixedOrders = true) (hp : ops.toList.all plainOp = true)
    (h : wpAnyIn Fence.wide n P .any ops Q ops.size (Array.replicate ops.size false) a w.drew) : (Code.region id ops true).wpIn (Fence.wide.inRound l) n P Q a w :=
  wpIn_region_any hm (wpAnyIn_round rfl (plain_all hp) _ _ _ _ h)

theorem stepIn_append_own {F : Fence} {n : Nat} {P : Program} {ops : Array Oper} {o : Oper} {a : Act} {w : World} {K : Act → World → Prop} {Q : Exit → Act → World → Prop} {E : Prop}
    (hro : F.round = none) (hg : o.guard = none) (s x : Operand) (t : TypeId) (hop : o.op = Op.call { callee := Callee.builtin Builtin.append, args := #[s, x], argTypes := #[t, t] }) (ty : TypeId) (hty : o.type = ty)
    (v : Value) (y : Value) (hs : a.eval s = v) (hx : a.eval x = y) (v' : Value) (w' : World) (hrun : (Builtin.append_ #[t, t] ty #[v, y]).run P w = .ok v' w') (hK : K (a.put o.dst v') w') :
    if Region.wanted o (yielded ops a.tmps) = true then Oper.wpIn F n P o a w K Q else E := by
  have hw : Region.wanted o (yielded ops a.tmps) = true := by simp [Region.wanted, hg]
  rw [if_pos hw]
  subst hty
  unfold Oper.wpIn
  refine ⟨?_, ?_⟩
  · simp [Oper.about, hop, resolve, Target.leads, Sem.run_pure]
  · rw [hro, Oper.semAt_none]
    simp [execOp, hop, resolve, invoke, builtin, hs, hx, hrun, Result.andThen]
    exact hK
end

section
open Go.RowKit
end

end Go.Proofs.YtckhjoancfbkfaaGreat
