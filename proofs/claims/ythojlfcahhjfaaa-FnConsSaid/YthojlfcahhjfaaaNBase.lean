/- Several texts in one: ClMath, Mem, Bytes. -/
import Derived.WalkKit
import Derived.Lib.BitFns
import Derived.WalkSpells
import Derived.WalkLawsBesides
import Derived.Deep.OwnRows
import Derived.Test.YthojlfcahhjfaaaRows
import Derived.Deep.QuietTactic
import Derived.BigQuiet
namespace Go.Proofs.Ythojlfcahhjfaaa

section
open Go.RowKit

/-! ### Bits -/

theorem wrap_id (k : Nat) (h : k < 9223372036854775808) : IntKind.i64.wrap (k : Int) = (k : Int) := by
  simp [IntKind.wrap, IntKind.bits, IntKind.signed]
  omega
end

section
open Go.RowKit

theorem rb {a b : Bool} (h : a = b) : Ending.returned (.bool a) = .returned (.bool b) := by rw [h]
theorem ri {a b : Int} (h : a = b) : Ending.returned (.int .i64 a) = .returned (.int .i64 b) := by rw [h]

/-- The blocks from lo on, below hi, are as they were. -/
def Same (lo hi : Nat) (w w' : World) : Prop := ∀ b, lo ≤ b → b < hi → w'.heap[b]? = w.heap[b]?

theorem Same.refl (lo hi : Nat) (w : World) : Same lo hi w w := fun _ _ _ => rfl
theorem Same.trans {lo hi : Nat} {a b c : World} (h : Same lo hi a b) (k : Same lo hi b c) : Same lo hi a c := fun x h1 h2 => (k x h1 h2).trans (h x h1 h2)
theorem Same.mono {lo hi lo' hi' : Nat} {w w' : World} (h : Same lo hi w w') (h1 : lo ≤ lo') (h2 : hi' ≤ hi) : Same lo' hi' w w' := fun b a c => h b (by omega) (by omega)
theorem Same.of_below {lo hi B : Nat} {w w' : World} (h : Below B w w') (hB : hi ≤ B) : Same lo hi w w' := fun b _ h2 => h.block b (by omega)
theorem Same.drew {lo hi : Nat} {w w' : World} (h : Same lo hi w w') (n : Nat) : Same lo hi w (w'.drewN n) := h
theorem Same.cell {lo hi : Nat} {w w' : World} (h : Same lo hi w w') {p : Addr} (h1 : lo ≤ p.block) (h2 : p.block < hi) : w'.cell? p = w.cell? p := World.cell?_of_block (w := w) (h p.block h1 h2)

/-- A slice's value reads as these bytes: it is empty, or leads to a row of cells, in a block from lo on, below hi, that hold them. -/
structure Rd (lo hi : Nat) (w : World) (a : Option Addr) (n cap : Nat) (zs : List Int) : Prop where
  len : zs.length = n
  fits : n ≤ cap ∧ cap ≤ 9223372036854775807
  byte : ∀ i, 0 ≤ zs.getD i 0 ∧ zs.getD i 0 ≤ 255
  cells : n = 0 ∨ ∃ b off, a = some ⟨b, off, none⟩ ∧ lo ≤ b ∧ b < hi ∧ ∀ i, i < n → w.cell? ⟨b, off + i, none⟩ = some (.int .u8 (zs.getD i 0))

theorem Rd.tail {lo hi : Nat} {w : World} {b off n cap : Nat} {zs : List Int} (h : Rd lo hi w (some ⟨b, off, none⟩) n cap zs) (hn : 1 ≤ n) : Rd lo hi w (some ⟨b, off + 1, none⟩) (n - 1) (cap - 1) (zs.drop 1) := by
  obtain ⟨hl, ⟨hn, hm⟩, hby, hc⟩ := h
  refine ⟨by simp [hl], by omega, fun i => ?_, ?_⟩
  · have := hby (i + 1); simpa [List.getD] using this
  · rcases hc with h0 | ⟨b, off, e, hb, hb', hc⟩
    · exact .inl (by omega)
    · simp at e
      obtain ⟨rfl, rfl⟩ := e
      refine .inr ⟨_, _, rfl, hb, hb', fun i hi => ?_⟩
      have := hc (i + 1) (by omega)
      rw [Nat.add_right_comm, Nat.add_assoc]
      simpa [List.getD] using this

theorem Rd.none_of {lo hi : Nat} {w : World} {a : Option Addr} {cap : Nat} (h : cap ≤ 9223372036854775807) : Rd lo hi w a 0 cap [] := ⟨rfl, ⟨Nat.zero_le _, h⟩, by simp, .inl rfl⟩

theorem Rd.same {lo hi : Nat} {w w' : World} {a : Option Addr} {n cap : Nat} {zs : List Int} (h : Rd lo hi w a n cap zs) (hs : Same lo hi w w') : Rd lo hi w' a n cap zs := by
  obtain ⟨hl, hm, hby, hc⟩ := h
  refine ⟨hl, hm, hby, ?_⟩
  rcases hc with h0 | ⟨b, off, e, h1, h2, hc⟩
  · exact .inl h0
  · exact .inr ⟨b, off, e, h1, h2, fun i hi => (hs.cell (p := ⟨b, off + i, none⟩) h1 h2).trans (hc i hi)⟩

theorem Rd.mono {lo hi lo' hi' : Nat} {w : World} {a : Option Addr} {n cap : Nat} {zs : List Int} (h : Rd lo hi w a n cap zs) (h1 : lo' ≤ lo) (h2 : hi ≤ hi') : Rd lo' hi' w a n cap zs := by
  obtain ⟨hl, hm, hby, hc⟩ := h
  refine ⟨hl, hm, hby, ?_⟩
  rcases hc with h0 | ⟨b, off, e, h3, h4, hc⟩
  · exact .inl h0
  · exact .inr ⟨b, off, e, by omega, by omega, hc⟩

theorem Rd.below {lo hi : Nat} {w w' : World} {B : Nat} {a : Option Addr} {n cap : Nat} {zs : List Int} (h : Rd lo hi w a n cap zs) (hb : Below B w w') (hB : hi ≤ B) : Rd lo hi w' a n cap zs := h.same (Same.of_below hb hB)

/-- A row of the call's own: cap cells of type 5, none frozen, the first of them these bytes. -/
def Row (w : World) (g cap : Nat) (zs : List Int) : Prop := ∃ c : Array Value, w.heap[g]? = some (.cells c 5 (0, 0)) ∧ c.size = cap ∧ zs.length ≤ cap ∧ ∀ i, i < zs.length → c[i]? = some (.int .u8 (zs.getD i 0))

theorem Row.cell {w : World} {g cap : Nat} {zs : List Int} (h : Row w g cap zs) {i : Nat} (hi : i < zs.length) : w.cell? ⟨g, i, none⟩ = some (.int .u8 (zs.getD i 0)) := by
  obtain ⟨c, hb, _, _, hc⟩ := h
  simp [World.cell?, hb, hc i hi]

theorem Row.frozen {w : World} {g cap : Nat} {zs : List Int} (h : Row w g cap zs) (i : Nat) : w.frozen? ⟨g, i, none⟩ = false := by
  obtain ⟨c, hb, _⟩ := h
  simp [World.frozen?, hb]

theorem Row.lt {w : World} {g cap : Nat} {zs : List Int} (h : Row w g cap zs) : g < w.heap.size := by
  obtain ⟨c, hb, _⟩ := h
  exact (Array.getElem?_eq_some_iff.1 hb).1

theorem Row.rd {lo hi : Nat} {w : World} {g n cap : Nat} {zs : List Int} (h : Row w g cap zs) (hl : zs.length = n) (hby : ∀ i, 0 ≤ zs.getD i 0 ∧ zs.getD i 0 ≤ 255) (hn : cap ≤ 9223372036854775807) (h1 : lo ≤ g) (h2 : g < hi) : Rd lo hi w (some ⟨g, 0, none⟩) n cap zs := by
  have hle : zs.length ≤ cap := by obtain ⟨c, _, _, h, _⟩ := h; exact h
  refine ⟨hl, ⟨by omega, hn⟩, hby, .inr ⟨g, 0, rfl, h1, h2, fun i hi => ?_⟩⟩
  rw [Nat.zero_add]
  exact Row.cell h (by omega)

theorem Row.of_block {w w' : World} {g cap : Nat} {zs : List Int} (h : Row w g cap zs) (e : w'.heap[g]? = w.heap[g]?) : Row w' g cap zs := by
  obtain ⟨c, hb, r⟩ := h
  exact ⟨c, e.trans hb, r⟩

theorem Row.below {w w' : World} {B g cap : Nat} {zs : List Int} (h : Row w g cap zs) (hb : Below B w w') (hg : g < B) : Row w' g cap zs := h.of_block (hb.block g hg)
theorem Row.same {lo hi : Nat} {w w' : World} {g cap : Nat} {zs : List Int} (h : Row w g cap zs) (hs : Same lo hi w w') (h1 : lo ≤ g) (h2 : g < hi) : Row w' g cap zs := h.of_block (hs g h1 h2)

theorem Row.setOf {w : World} {g cap : Nat} {zs : List Int} {a : Addr} {v : Value} (ha : g ≠ a.block) (h : Row w g cap zs) : Row (w.setCell a v) g cap zs := h.of_block (Below.heap_setCell _ _ _ _ ha)
theorem Row.allocOf {w : World} {g cap : Nat} {zs : List Int} {o : Obj} (h : Row w g cap zs) : Row (w.alloc o) g cap zs := h.of_block (Below.heap_alloc _ _ _ h.lt)

/-! ### Marking cells, one number behind the other -/

def marks (w : World) : List (Addr × IntKind) → Int → World
  | [], _ => w
  | (a, kd) :: L, k => marks (w.setCell a (.int kd (kd.wrap k))) L (k + 1)

/-- Each is a cell that holds a number of its kind and may be written. -/
def LeafOk (w : World) (L : List (Addr × IntKind)) : Prop := ∀ x ∈ L, (∃ n, w.cell? x.1 = some (.int x.2 n)) ∧ w.frozen? x.1 = false

theorem LeafOk.set {w : World} {L : List (Addr × IntKind)} (h : LeafOk w L) {a : Addr} {kd : IntKind} {m : Int} (ha : w.cell? a = some (.int kd m)) (v : Int) : LeafOk (w.setCell a (.int kd v)) L := by
  intro x hx
  obtain ⟨⟨n, hn⟩, hf⟩ := h x hx
  refine ⟨?_, by simpa using hf⟩
  by_cases e : a = x.1
  · subst e
    rw [ha] at hn
    simp at hn
    exact ⟨v, by rw [World.cell?_setCell_same _ _ _ ha, hn.1]⟩
  · exact ⟨n, by rw [World.cell?_setCell_other _ _ _ _ e]; exact hn⟩

theorem LeafOk.marks {L : List (Addr × IntKind)} : ∀ {w : World} {M : List (Addr × IntKind)}, LeafOk w L → LeafOk w M → ∀ k, LeafOk (marks w L k) M ∧ LeafOk (marks w L k) L := by
  induction L with
  | nil => intro w M h1 h2 k; exact ⟨h2, h1⟩
  | cons x L ih =>
    intro w M h1 h2 k
    obtain ⟨a, kd⟩ := x
    obtain ⟨⟨m, hm⟩, hf⟩ := h1 (a, kd) (by simp)
    have h1' := h1.set hm (kd.wrap k)
    have h2' := h2.set hm (kd.wrap k)
    refine ⟨(ih (fun x hx => h1' x (by simp [hx])) h2' (k + 1)).1, ?_⟩
    exact (ih (fun x hx => h1' x (by simp [hx])) h1' (k + 1)).1

/-- The marks are there, from k on. -/
def Held (w : World) : List (Addr × IntKind) → Int → Prop
  | [], _ => True
  | (a, kd) :: L, k => w.cell? a = some (.int kd (kd.wrap k)) ∧ Held w L (k + 1)

theorem Held.same {lo hi : Nat} {w w' : World} (hs : Same lo hi w w') {L : List (Addr × IntKind)} : ∀ {k : Int}, (∀ x ∈ L, lo ≤ x.1.block ∧ x.1.block < hi) → Held w L k → Held w' L k := by
  induction L with
  | nil => intro k _ _; trivial
  | cons x L ih =>
    intro k hb h
    obtain ⟨a, kd⟩ := x
    have hb' := hb (a, kd) (by simp)
    exact ⟨(hs.cell hb'.1 hb'.2).trans h.1, ih (fun x hx => hb x (by simp [hx])) h.2⟩

theorem wrap64_id {k : Int} (h : 0 ≤ k ∧ k ≤ 4611686018427387904) : IntKind.i64.wrap k = k := by
  simp [IntKind.wrap, IntKind.bits, IntKind.signed]
  omega
end

section
open Go.RowKit

theorem Try.info5 : (Try.prog.info? 5).map (fun i => (i.zero, i.size, i.bytes)) = some (some (.int .u8 0), 1, 1) := by kernel_rfl

def part (zs : List Int) (k : Nat) (i : Nat) : Value := .int .u8 (if i < k then zs.getD i 0 else 0)

/-! ### marking -/

/-- The cells of a slice of bytes. -/
def leafB (b off n : Nat) : List (Addr × IntKind) := (List.range n).map (fun j => (⟨b, off + j, none⟩, .u8))

theorem leafB_length (b off n : Nat) : (leafB b off n).length = n := by simp [leafB]
end

end Go.Proofs.Ythojlfcahhjfaaa
