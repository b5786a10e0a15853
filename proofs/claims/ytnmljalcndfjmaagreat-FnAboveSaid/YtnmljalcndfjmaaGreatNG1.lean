/- Several texts in one: Mem, Bytes, ConMem, Conv, ConTo, LawBox, ClMath, Toks. -/
import Derived.WalkKit
import Derived.WalkSpells
import Derived.WalkLawsBesides
import Derived.Deep.OwnRows
import Derived.Test.YtnmljalcndfjmaaGreatRows
import Derived.Deep.QuietTactic
import Derived.BigQuiet
import Derived.Laws.BytesArg
import Derived.RangeFuncRecord
import Derived.Lib.BitFns
import Derived.Deep.RegionWith
namespace Go.Proofs.YtnmljalcndfjmaaGreat

section
open Go.RowKit

theorem rb {a b : Bool} (h : a = b) : Ending.returned (.bool a) = .returned (.bool b) := by rw [h]
theorem ri {a b : Int} (h : a = b) : Ending.returned (.int .i64 a) = .returned (.int .i64 b) := by rw [h]

/-- The blocks from lo on, below hi, are as they were. -/
def Same (lo hi : Nat) (w w' : World) : Prop := ∀ b, lo ≤ b → b < hi → w'.heap[b]? = w.heap[b]?

theorem Same.refl (lo hi : Nat) (w : World) : Same lo hi w w := fun _ _ _ => rfl
theorem Same.trans {lo hi : Nat} {a b c : World} (h : Same lo hi a b) (k : Same lo hi b c) : Same lo hi a c := fun x h1 h2 => (k x h1 h2).trans (h x h1 h2)
theorem Same.mono {lo hi lo' hi' : Nat} {w w' : World} (h : Same lo hi w w') (h1 : lo ≤ lo') (h2 : hi' ≤ hi) : Same lo' hi' w w' := fun b a c => h b (by omega) (by omega)
theorem Same.of_below {lo hi B : Nat} {w w' : World} (h : Below B w w') (hB : hi ≤ B) : Same lo hi w w' := fun b _ h2 => h.block b (by omega)
theorem Same.drew {lo hi : Nat} {w w' : World} (h : Same lo hi w w') (n : Nat) : Same lo hi w (w'.drewN n) := h
theorem Same.cell {lo hi : Nat} {w w' : World} (h : Same lo hi w w') {p : Addr} (h1 : lo ≤ p.block) (h2 : p.block < hi) : w'.cell? p = w.cell? p := World.cell?_of_block (w := w) (h p.block h1 h2)

/-- A slice's value reads as these bytes: it is empty, or leads to a row of cells, in a block from lo on, below hi, that hold them. -/
structure Rd (lo hi : Nat) (w : World) (a : Option Addr) (n cap : Nat) (zs : List Int) : Prop where
  len : zs.length = n
  fits : n ≤ cap ∧ cap ≤ 9223372036854775807
  byte : ∀ i, 0 ≤ zs.getD i 0 ∧ zs.getD i 0 ≤ 255
  cells : n = 0 ∨ ∃ b off, a = some ⟨b, off, none⟩ ∧ lo ≤ b ∧ b < hi ∧ ∀ i, i < n → w.cell? ⟨b, off + i, none⟩ = some (.int .u8 (zs.getD i 0))

theorem Rd.tail {lo hi : Nat} {w : World} {b off n cap : Nat} {zs : List Int} (h : Rd lo hi w (some ⟨b, off, none⟩) n cap zs) (hn : 1 ≤ n) : Rd lo hi w (some ⟨b, off + 1, none⟩) (n - 1) (cap - 1) (zs.drop 1) := by
  obtain ⟨hl, ⟨hn, hm⟩, hby, hc⟩ := h
  refine ⟨by simp [hl], by omega, fun i => ?_, ?_⟩
  · have := hby (i + 1); simpa [List.getD] using this
  · rcases hc with h0 | ⟨b, off, e, hb, hb', hc⟩
    · exact .inl (by omega)
    · simp at e
      obtain ⟨rfl, rfl⟩ := e
      refine .inr ⟨_, _, rfl, hb, hb', fun i hi => ?_⟩
      have := hc (i + 1) (by omega)
      rw [Nat.add_right_comm, Nat.add_assoc]
      simpa [List.getD] using this

theorem Rd.none_of {lo hi : Nat} {w : World} {a : Option Addr} {cap : Nat} (h : cap ≤ 9223372036854775807) : Rd lo hi w a 0 cap [] := ⟨rfl, ⟨Nat.zero_le _, h⟩, by simp, .inl rfl⟩

theorem Rd.same {lo hi : Nat} {w w' : World} {a : Option Addr} {n cap : Nat} {zs : List Int} (h : Rd lo hi w a n cap zs) (hs : Same lo hi w w') : Rd lo hi w' a n cap zs := by
  obtain ⟨hl, hm, hby, hc⟩ := h
  refine ⟨hl, hm, hby, ?_⟩
  rcases hc with h0 | ⟨b, off, e, h1, h2, hc⟩
  · exact .inl h0
  · exact .inr ⟨b, off, e, h1, h2, fun i hi => (hs.cell (p := ⟨b, off + i, none⟩) h1 h2).trans (hc i hi)⟩

theorem Rd.mono {lo hi lo' hi' : Nat} {w : World} {a : Option Addr} {n cap : Nat} {zs : List Int} (h : Rd lo hi w a n cap zs) (h1 : lo' ≤ lo) (h2 : hi ≤ hi') : Rd lo' hi' w a n cap zs := by
  obtain ⟨hl, hm, hby, hc⟩ := h
  refine ⟨hl, hm, hby, ?_⟩
  rcases hc with h0 | ⟨b, off, e, h3, h4, hc⟩
  · exact .inl h0
  · exact .inr ⟨b, off, e, by omega, by omega, hc⟩

theorem Rd.below {lo hi : Nat} {w w' : World} {B : Nat} {a : Option Addr} {n cap : Nat} {zs : List Int} (h : Rd lo hi w a n cap zs) (hb : Below B w w') (hB : hi ≤ B) : Rd lo hi w' a n cap zs := h.same (Same.of_below hb hB)

/-- A row of the call's own: cap cells of type 5, none frozen, the first of them these bytes. -/
def Row (w : World) (g cap : Nat) (zs : List Int) : Prop := ∃ c : Array Value, w.heap[g]? = some (.cells c 5 (0, 0)) ∧ c.size = cap ∧ zs.length ≤ cap ∧ ∀ i, i < zs.length → c[i]? = some (.int .u8 (zs.getD i 0))

theorem Row.cell {w : World} {g cap : Nat} {zs : List Int} (h : Row w g cap zs) {i : Nat} (hi : i < zs.length) : w.cell? ⟨g, i, none⟩ = some (.int .u8 (zs.getD i 0)) := by
  obtain ⟨c, hb, _, _, hc⟩ := h
  simp [World.cell?, hb, hc i hi]

theorem Row.frozen {w : World} {g cap : Nat} {zs : List Int} (h : Row w g cap zs) (i : Nat) : w.frozen? ⟨g, i, none⟩ = false := by
  obtain ⟨c, hb, _⟩ := h
  simp [World.frozen?, hb]

theorem Row.lt {w : World} {g cap : Nat} {zs : List Int} (h : Row w g cap zs) : g < w.heap.size := by
  obtain ⟨c, hb, _⟩ := h
  exact (Array.getElem?_eq_some_iff.1 hb).1

theorem Row.rd {lo hi : Nat} {w : World} {g n cap : Nat} {zs : List Int} (h : Row w g cap zs) (hl : zs.length = n) (hby : ∀ i, 0 ≤ zs.getD i 0 ∧ zs.getD i 0 ≤ 255) (hn : cap ≤ 9223372036854775807) (h1 : lo ≤ g) (h2 : g < hi) : Rd lo hi w (some ⟨g, 0, none⟩) n cap zs := by
  have hle : zs.length ≤ cap := by obtain ⟨c, _, _, h, _⟩ := h; exact h
  refine ⟨hl, ⟨by omega, hn⟩, hby, .inr ⟨g, 0, rfl, h1, h2, fun i hi => ?_⟩⟩
  rw [Nat.zero_add]
  exact Row.cell h (by omega)

theorem Row.of_block {w w' : World} {g cap : Nat} {zs : List Int} (h : Row w g cap zs) (e : w'.heap[g]? = w.heap[g]?) : Row w' g cap zs := by
  obtain ⟨c, hb, r⟩ := h
  exact ⟨c, e.trans hb, r⟩

theorem Row.below {w w' : World} {B g cap : Nat} {zs : List Int} (h : Row w g cap zs) (hb : Below B w w') (hg : g < B) : Row w' g cap zs := h.of_block (hb.block g hg)
theorem Row.same {lo hi : Nat} {w w' : World} {g cap : Nat} {zs : List Int} (h : Row w g cap zs) (hs : Same lo hi w w') (h1 : lo ≤ g) (h2 : g < hi) : Row w' g cap zs := h.of_block (hs g h1 h2)

theorem Row.setOf {w : World} {g cap : Nat} {zs : List Int} {a : Addr} {v : Value} (ha : g ≠ a.block) (h : Row w g cap zs) : Row (w.setCell a v) g cap zs := h.of_block (Below.heap_setCell _ _ _ _ ha)
theorem Row.allocOf {w : World} {g cap : Nat} {zs : List Int} {o : Obj} (h : Row w g cap zs) : Row (w.alloc o) g cap zs := h.of_block (Below.heap_alloc _ _ _ h.lt)

/-! ### Marking cells, one number behind the other -/

def marks (w : World) : List (Addr × IntKind) → Int → World
  | [], _ => w
  | (a, kd) :: L, k => marks (w.setCell a (.int kd (kd.wrap k))) L (k + 1)

/-- Each is a cell that holds a number of its kind and may be written. -/
def LeafOk (w : World) (L : List (Addr × IntKind)) : Prop := ∀ x ∈ L, (∃ n, w.cell? x.1 = some (.int x.2 n)) ∧ w.frozen? x.1 = false

theorem LeafOk.set {w : World} {L : List (Addr × IntKind)} (h : LeafOk w L) {a : Addr} {kd : IntKind} {m : Int} (ha : w.cell? a = some (.int kd m)) (v : Int) : LeafOk (w.setCell a (.int kd v)) L := by
  intro x hx
  obtain ⟨⟨n, hn⟩, hf⟩ := h x hx
  refine ⟨?_, by simpa using hf⟩
  by_cases e : a = x.1
  · subst e
    rw [ha] at hn
    simp at hn
    exact ⟨v, by rw [World.cell?_setCell_same _ _ _ ha, hn.1]⟩
  · exact ⟨n, by rw [World.cell?_setCell_other _ _ _ _ e]; exact hn⟩

theorem LeafOk.marks {L : List (Addr × IntKind)} : ∀ {w : World} {M : List (Addr × IntKind)}, LeafOk w L → LeafOk w M → ∀ k, LeafOk (marks w L k) M ∧ LeafOk (marks w L k) L := by
  induction L with
  | nil => intro w M h1 h2 k; exact ⟨h2, h1⟩
  | cons x L ih =>
    intro w M h1 h2 k
    obtain ⟨a, kd⟩ := x
    obtain ⟨⟨m, hm⟩, hf⟩ := h1 (a, kd) (by simp)
    have h1' := h1.set hm (kd.wrap k)
    have h2' := h2.set hm (kd.wrap k)
    refine ⟨(ih (fun x hx => h1' x (by simp [hx])) h2' (k + 1)).1, ?_⟩
    exact (ih (fun x hx => h1' x (by simp [hx])) h1' (k + 1)).1

/-- The marks are there, from k on. -/
def Held (w : World) : List (Addr × IntKind) → Int → Prop
  | [], _ => True
  | (a, kd) :: L, k => w.cell? a = some (.int kd (kd.wrap k)) ∧ Held w L (k + 1)

theorem Held.same {lo hi : Nat} {w w' : World} (hs : Same lo hi w w') {L : List (Addr × IntKind)} : ∀ {k : Int}, (∀ x ∈ L, lo ≤ x.1.block ∧ x.1.block < hi) → Held w L k → Held w' L k := by
  induction L with
  | nil => intro k _ _; trivial
  | cons x L ih =>
    intro k hb h
    obtain ⟨a, kd⟩ := x
    have hb' := hb (a, kd) (by simp)
    exact ⟨(hs.cell hb'.1 hb'.2).trans h.1, ih (fun x hx => hb x (by simp [hx])) h.2⟩

theorem wrap64_id {k : Int} (h : 0 ≤ k ∧ k ≤ 4611686018427387904) : IntKind.i64.wrap k = k := by
  simp [IntKind.wrap, IntKind.bits, IntKind.signed]
  omega
end

section
open Go.RowKit

theorem Tryz.info5 : (Tryz.prog.info? 5).map (fun i => (i.zero, i.size, i.bytes)) = some (some (.int .u8 0), 1, 1) := by kernel_rfl

def part (zs : List Int) (k : Nat) (i : Nat) : Value := .int .u8 (if i < k then zs.getD i 0 else 0)

/-! ### marking -/

/-- The cells of a slice of bytes. -/
def leafB (b off n : Nat) : List (Addr × IntKind) := (List.range n).map (fun j => (⟨b, off + j, none⟩, .u8))

theorem leafB_length (b off n : Nat) : (leafB b off n).length = n := by simp [leafB]
end

section
open Go.RowKit

/-- A concept: its kind, its name, its role, its kids. -/
inductive CN where
  | mk (kind : Int) (name role : List Int) (kids : List CN)

def CN.kind : CN → Int | .mk k _ _ _ => k
def CN.name : CN → List Int | .mk _ n _ _ => n
def CN.role : CN → List Int | .mk _ _ r _ => r
def CN.kids : CN → List CN | .mk _ _ _ ks => ks
def CN.zero : CN := .mk 0 [] [] []
instance : Inhabited CN := ⟨CN.zero⟩

mutual
/-- How much it holds beyond itself. -/
def CN.bulk : CN → Nat
  | .mk _ n r ks => n.length + r.length + bulks ks
def bulks : List CN → Nat
  | [] => 0
  | c :: cs => 1 + c.bulk + bulks cs
end

theorem CN.bulk_eq (c : CN) : c.bulk = c.name.length + c.role.length + bulks c.kids := by
  cases c; rw [CN.bulk]; rfl

theorem bulks_append (xs ys : List CN) : bulks (xs ++ ys) = bulks xs + bulks ys := by
  induction xs with
  | nil => simp [bulks]
  | cons x xs ih => simp only [List.cons_append, bulks, ih]; omega

theorem take_succ_getD {α : Type} (l : List α) (d : α) (k : Nat) (h : k < l.length) : l.take (k + 1) = l.take k ++ [l.getD k d] := by
  rw [List.take_succ_eq_append_getElem h]
  simp [List.getD, h]

theorem bulks_take_succ (cs : List CN) (k : Nat) (h : k < cs.length) : bulks (cs.take (k + 1)) = bulks (cs.take k) + 1 + (cs.getD k CN.zero).bulk := by
  rw [take_succ_getD cs CN.zero k h, bulks_append]
  simp only [bulks]
  omega

theorem bulks_take_le (cs : List CN) (k : Nat) : bulks (cs.take k) ≤ bulks cs := by
  have := bulks_append (cs.take k) (cs.drop k)
  rw [List.take_append_drop] at this
  omega

theorem length_le_bulks (cs : List CN) : cs.length ≤ bulks cs := by
  induction cs with
  | nil => simp
  | cons c cs ih => simp only [List.length_cons, bulks]; omega

theorem getD_bulk_le (cs : List CN) (k : Nat) (h : k < cs.length) : (cs.getD k CN.zero).bulk + 1 ≤ bulks cs := by
  have := bulks_take_succ cs k h
  have := bulks_take_le cs (k + 1)
  omega

/-- A slice's value reads as these, each of four cells, 'R' saying what four cells read as. -/
structure RdL (R : Value → CN → Prop) (lo hi : Nat) (w : World) (a : Option Addr) (n cap : Nat) (cs : List CN) : Prop where
  len : cs.length = n
  fits : n ≤ cap ∧ cap ≤ 9223372036854775807
  cells : n = 0 ∨ ∃ b off, a = some ⟨b, off, none⟩ ∧ lo ≤ b ∧ b < hi ∧ ∀ i, i < n → ∃ v0 v1 v2 v3,
    w.cell? ⟨b, off + i * 4, none⟩ = some v0 ∧ w.cell? ⟨b, off + i * 4 + 1, none⟩ = some v1 ∧ w.cell? ⟨b, off + i * 4 + 2, none⟩ = some v2 ∧ w.cell? ⟨b, off + i * 4 + 3, none⟩ = some v3 ∧
    R (.agg #[v0, v1, v2, v3]) (cs.getD i CN.zero)

/-- A value reads as this concept, in at most d steps. -/
def RdC (lo hi : Nat) (w : World) : Nat → Value → CN → Prop
  | 0, _, _ => False
  | d + 1, v, c => ∃ na nn nc ra rn rc ka kn kc, v = .agg #[.int .i64 c.kind, .slice na nn nc, .slice ra rn rc, .slice ka kn kc] ∧
      Rd lo hi w na nn nc c.name ∧ Rd lo hi w ra rn rc c.role ∧ RdL (RdC lo hi w d) lo hi w ka kn kc c.kids

theorem RdL.imp {R S : Value → CN → Prop} {lo hi lo' hi' : Nat} {w w' : World} {a : Option Addr} {n cap : Nat} {cs : List CN} (h : RdL R lo hi w a n cap cs)
    (hRS : ∀ v c, R v c → S v c) (hs : Same lo hi w w') (h1 : lo' ≤ lo) (h2 : hi ≤ hi') : RdL S lo' hi' w' a n cap cs := by
  obtain ⟨hl, hm, hc⟩ := h
  refine ⟨hl, hm, ?_⟩
  rcases hc with h0 | ⟨b, off, e, q1, q2, hc⟩
  · exact .inl h0
  · refine .inr ⟨b, off, e, by omega, by omega, fun i hi => ?_⟩
    obtain ⟨v0, v1, v2, v3, c0, c1, c2, c3, hr⟩ := hc i hi
    exact ⟨v0, v1, v2, v3, (hs.cell (p := ⟨b, _, none⟩) q1 q2).trans c0, (hs.cell (p := ⟨b, _, none⟩) q1 q2).trans c1, (hs.cell (p := ⟨b, _, none⟩) q1 q2).trans c2, (hs.cell (p := ⟨b, _, none⟩) q1 q2).trans c3, hRS _ _ hr⟩

theorem RdC.same {lo hi : Nat} {w w' : World} (hs : Same lo hi w w') : ∀ {d : Nat} {v : Value} {c : CN}, RdC lo hi w d v c → RdC lo hi w' d v c := by
  intro d
  induction d with
  | zero => intro v c h; exact h
  | succ d ih =>
    intro v c h
    obtain ⟨na, nn, nc, ra, rn, rc, ka, kn, kc, hv, h1, h2, h3⟩ := h
    exact ⟨na, nn, nc, ra, rn, rc, ka, kn, kc, hv, h1.same hs, h2.same hs, h3.imp (fun v c h => ih h) hs (Nat.le_refl _) (Nat.le_refl _)⟩

theorem RdC.mono {lo hi lo' hi' : Nat} {w : World} (q1 : lo' ≤ lo) (q2 : hi ≤ hi') : ∀ {d : Nat} {v : Value} {c : CN}, RdC lo hi w d v c → RdC lo' hi' w d v c := by
  intro d
  induction d with
  | zero => intro v c h; exact h
  | succ d ih =>
    intro v c h
    obtain ⟨na, nn, nc, ra, rn, rc, ka, kn, kc, hv, h1, h2, h3⟩ := h
    exact ⟨na, nn, nc, ra, rn, rc, ka, kn, kc, hv, h1.mono q1 q2, h2.mono q1 q2, h3.imp (fun v c h => ih h) (Same.refl _ _ _) q1 q2⟩

theorem RdC.below {lo hi B : Nat} {w w' : World} {d : Nat} {v : Value} {c : CN} (h : RdC lo hi w d v c) (hb : Below B w w') (hB : hi ≤ B) : RdC lo hi w' d v c := h.same (Same.of_below hb hB)

theorem RdL.same {lo hi d : Nat} {w w' : World} {a : Option Addr} {n cap : Nat} {cs : List CN} (h : RdL (RdC lo hi w d) lo hi w a n cap cs) (hs : Same lo hi w w') : RdL (RdC lo hi w' d) lo hi w' a n cap cs :=
  h.imp (fun _ _ h => h.same hs) hs (Nat.le_refl _) (Nat.le_refl _)

theorem RdL.below {lo hi d B : Nat} {w w' : World} {a : Option Addr} {n cap : Nat} {cs : List CN} (h : RdL (RdC lo hi w d) lo hi w a n cap cs) (hb : Below B w w') (hB : hi ≤ B) : RdL (RdC lo hi w' d) lo hi w' a n cap cs := h.same (Same.of_below hb hB)

/-- No cell of these blocks is frozen. -/
def Free (lo hi : Nat) (w : World) : Prop := ∀ b, lo ≤ b → b < hi → ∀ o, w.frozen? ⟨b, o, none⟩ = false

theorem Free.same {lo hi : Nat} {w w' : World} (h : Free lo hi w) (hs : Same lo hi w w') : Free lo hi w' := by
  intro b h1 h2 o
  exact (World.frozen?_of_block (w := w) (hs b h1 h2)).trans (h b h1 h2 o)

theorem Free.mono {lo hi lo' hi' : Nat} {w : World} (h : Free lo hi w) (q1 : lo ≤ lo') (q2 : hi' ≤ hi) : Free lo' hi' w := fun b h1 h2 o => h b (by omega) (by omega) o

theorem Free.join {lo mid hi : Nat} {w : World} (h : Free lo mid w) (k : Free mid hi w) : Free lo hi w := by
  intro b h1 h2 o
  by_cases e : b < mid
  · exact h b h1 e o
  · exact k b (by omega) h2 o

theorem Free.set {lo hi : Nat} {w : World} (h : Free lo hi w) (a : Addr) (v : Value) : Free lo hi (w.setCell a v) := by
  intro b h1 h2 o
  have := h b h1 h2 o
  simpa using this

theorem Free.one (w : World) (c : Array Value) (t : TypeId) : Free w.heap.size (w.heap.size + 1) (w.alloc (.cells c t)) := by
  intro b h1 h2 o
  have e : b = w.heap.size := by omega
  subst e
  have hb : (w.alloc (.cells c t)).heap[w.heap.size]? = some (.cells c t) := by
    show (w.heap.push _)[w.heap.size]? = _
    simp
  unfold World.frozen?
  simp only []
  rw [hb]
  simp

theorem Free.alloc {lo : Nat} {w : World} (h : Free lo w.heap.size w) (c : Array Value) (t : TypeId) : Free lo (w.heap.size + 1) (w.alloc (.cells c t)) :=
  (h.same (Same.of_below ((Below.refl w.heap.size w).alloc (Nat.le_refl _) _) (Nat.le_refl _))).join (Free.one w c t)

theorem Free.nil (w : World) (lo : Nat) : Free lo lo w := fun b h1 h2 => absurd h2 (by omega)

/-- What is free up to the heap's end stays so behind a call that turned nothing below, and whose own blocks are free. -/
theorem Free.next {lo : Nat} {w w' : World} (h : Free lo w.heap.size w) (hb : Below w.heap.size w w') (k : Free w.heap.size w'.heap.size w') : Free lo w'.heap.size w' :=
  (h.same (Same.of_below hb (Nat.le_refl _))).join k
end

section
open Go.RowKit

theorem conv_any {a : Option Addr} {n cap : Nat} {zs : List Int} {w : World} {lo hi : Nat} (h : Rd lo hi w a n cap zs) : (convert 22 9 (.slice a n cap)).run Tryz.prog w = .ok (.string (strOfNums zs)) w := by
  obtain ⟨hl, _, _, hc⟩ := h
  rcases hc with h0 | ⟨b, off, rfl, hlo, hb, hc⟩
  · subst h0
    have hz : zs = [] := List.eq_nil_of_length_eq_zero hl
    subst hz
    rw [run_convert_bytes_string w 22 9 5 _ 0 cap Tryz.underlying22 Tryz.underlying5 Tryz.underlying9]
    cases a <;> simp [Conv.bytesToString, loadCells]
    all_goals rfl
  · exact run_convert_bytes_arg w 22 5 Tryz.underlying22 Tryz.underlying5 b off n cap zs hl hc 9 Tryz.underlying9
end

section
open Go.RowKit

/-- A block of four cells, none frozen. -/
def Blk (w : World) (g : Nat) (t : TypeId) (x0 x1 x2 x3 : Value) : Prop := w.heap[g]? = some (.cells #[x0, x1, x2, x3] t (0, 0))

theorem Blk.cells {w : World} {g : Nat} {t : TypeId} {x0 x1 x2 x3 : Value} (h : Blk w g t x0 x1 x2 x3) :
    w.cell? ⟨g, 0, none⟩ = some x0 ∧ w.cell? ⟨g, 1, none⟩ = some x1 ∧ w.cell? ⟨g, 2, none⟩ = some x2 ∧ w.cell? ⟨g, 3, none⟩ = some x3 ∧ ∀ o, w.frozen? ⟨g, o, none⟩ = false := by
  unfold Blk at h
  refine ⟨by simp [World.cell?, h], by simp [World.cell?, h], by simp [World.cell?, h], by simp [World.cell?, h], fun o => by simp [World.frozen?, h]⟩

theorem Blk.lt {w : World} {g : Nat} {t : TypeId} {x0 x1 x2 x3 : Value} (h : Blk w g t x0 x1 x2 x3) : g < w.heap.size := (Array.getElem?_eq_some_iff.1 h).1
theorem Blk.of_block {w w' : World} {g : Nat} {t : TypeId} {x0 x1 x2 x3 : Value} (h : Blk w g t x0 x1 x2 x3) (e : w'.heap[g]? = w.heap[g]?) : Blk w' g t x0 x1 x2 x3 := e.trans h
theorem Blk.below {w w' : World} {B g : Nat} {t : TypeId} {x0 x1 x2 x3 : Value} (h : Blk w g t x0 x1 x2 x3) (hb : Below B w w') (hg : g < B) : Blk w' g t x0 x1 x2 x3 := h.of_block (hb.block g hg)
theorem Blk.alloc {w : World} {g : Nat} {t : TypeId} {x0 x1 x2 x3 : Value} (h : Blk w g t x0 x1 x2 x3) (o : Obj) : Blk (w.alloc o) g t x0 x1 x2 x3 := h.of_block (Below.heap_alloc _ _ _ h.lt)
theorem Blk.set {w : World} {g : Nat} {t : TypeId} {x0 x1 x2 x3 : Value} (h : Blk w g t x0 x1 x2 x3) (j : Nat) (v : Value) : (w.setCell ⟨g, j, none⟩ v).heap[g]? = some (.cells (#[x0, x1, x2, x3].setIfInBounds j v) t (0, 0)) := by
  unfold Blk at h
  simp [World.setCell, Array.getElem?_modify, h]
theorem Blk.set2 {w : World} {g : Nat} {t : TypeId} {x0 x1 x2 x3 : Value} (h : Blk w g t x0 x1 x2 x3) (v : Value) : Blk (w.setCell ⟨g, 2, none⟩ v) g t x0 x1 v x3 := h.set 2 v
theorem Blk.set3 {w : World} {g : Nat} {t : TypeId} {x0 x1 x2 x3 : Value} (h : Blk w g t x0 x1 x2 x3) (v : Value) : Blk (w.setCell ⟨g, 3, none⟩ v) g t x0 x1 x2 v := h.set 3 v

theorem RdC.shape {lo hi : Nat} {w : World} {d : Nat} {v : Value} {c : CN} (h : RdC lo hi w d v c) : ∃ k na nn nc ra rn rc ka kn kc, v = .agg #[.int .i64 k, .slice na nn nc, .slice ra rn rc, .slice ka kn kc] := by
  cases d with
  | zero => exact h.elim
  | succ d =>
    obtain ⟨na, nn, nc, ra, rn, rc, ka, kn, kc, hv, _⟩ := h
    exact ⟨_, na, nn, nc, ra, rn, rc, ka, kn, kc, hv⟩
end

section
open Go.RowKit
end

section
open Go.RowKit

/-! ### Bits -/

theorem wrap_id (k : Nat) (h : k < 9223372036854775808) : IntKind.i64.wrap (k : Int) = (k : Int) := by
  simp [IntKind.wrap, IntKind.bits, IntKind.signed]
  omega
end

section
open Go.RowKit

/-- A token: its kind, its place, the bytes of its text. -/
structure Tok where
  kind : Int
  place : Int
  text : List Int

def Tok.zero : Tok := ⟨0, 0, []⟩

/-- A slice's value reads as these tokens. -/
structure RdT (lo hi : Nat) (w : World) (a : Option Addr) (n cap : Nat) (ts : List Tok) : Prop where
  len : ts.length = n
  fits : n ≤ cap ∧ cap ≤ 9223372036854775807
  cells : n = 0 ∨ ∃ b off, a = some ⟨b, off, none⟩ ∧ lo ≤ b ∧ b < hi ∧ ∀ i, i < n → ∃ ta tn tc,
    w.cell? ⟨b, off + i * 3, none⟩ = some (.int .i64 (ts.getD i Tok.zero).kind) ∧ w.cell? ⟨b, off + i * 3 + 1, none⟩ = some (.int .i64 (ts.getD i Tok.zero).place) ∧
    w.cell? ⟨b, off + i * 3 + 2, none⟩ = some (.slice ta tn tc) ∧ Rd lo hi w ta tn tc (ts.getD i Tok.zero).text

theorem RdT.same {lo hi : Nat} {w w' : World} {a : Option Addr} {n cap : Nat} {ts : List Tok} (h : RdT lo hi w a n cap ts) (hs : Same lo hi w w') : RdT lo hi w' a n cap ts := by
  obtain ⟨hl, hm, hc⟩ := h
  refine ⟨hl, hm, ?_⟩
  rcases hc with h0 | ⟨b, off, e, h1, h2, hc⟩
  · exact .inl h0
  · refine .inr ⟨b, off, e, h1, h2, fun i hi => ?_⟩
    obtain ⟨ta, tn, tc, c1, c2, c3, c4⟩ := hc i hi
    exact ⟨ta, tn, tc, (hs.cell (p := ⟨b, _, none⟩) h1 h2).trans c1, (hs.cell (p := ⟨b, _, none⟩) h1 h2).trans c2, (hs.cell (p := ⟨b, _, none⟩) h1 h2).trans c3, c4.same hs⟩

/-! ### marking -/

/-- Where a slice of tokens has its numbers and its bytes: block and place of each text, and how long it is. -/
def leafT (b off : Nat) (tx : Nat → Nat × Nat × Nat) (n : Nat) : List (Addr × IntKind) :=
  (List.range n).flatMap (fun i => (⟨b, off + i * 3, none⟩, .i64) :: (⟨b, off + i * 3 + 1, none⟩, .i64) :: leafB (tx i).1 (tx i).2.1 (tx i).2.2)

theorem leafT_succ (b off : Nat) (tx : Nat → Nat × Nat × Nat) (n : Nat) :
    leafT b off tx (n + 1) = leafT b off tx n ++ ((⟨b, off + n * 3, none⟩, .i64) :: (⟨b, off + n * 3 + 1, none⟩, .i64) :: leafB (tx n).1 (tx n).2.1 (tx n).2.2) := by
  simp [leafT, List.range_succ]

/-- The text of each token is a slice that leads where 'tx' says. -/
def HeadT (w : World) (b off : Nat) (tx : Nat → Nat × Nat × Nat) (n : Nat) : Prop :=
  ∀ i, i < n → ∃ ta tc, w.cell? ⟨b, off + i * 3 + 2, none⟩ = some (.slice ta (tx i).2.2 tc) ∧ ((tx i).2.2 = 0 ∨ ta = some ⟨(tx i).1, (tx i).2.1, none⟩) ∧ (tx i).2.2 ≤ 1048576

theorem HeadT.marks {b off n : Nat} {tx : Nat → Nat × Nat × Nat} {L : List (Addr × IntKind)} : ∀ {w : World}, HeadT w b off tx n → LeafOk w L → ∀ k, HeadT (marks w L k) b off tx n := by
  induction L with
  | nil => intro w h _ k; exact h
  | cons x L ih =>
    intro w h hL k
    obtain ⟨a, kd⟩ := x
    obtain ⟨⟨m, hm⟩, hf⟩ := hL (a, kd) (by simp)
    have h1' := hL.set hm (kd.wrap k)
    refine ih (fun i hi => ?_) (fun x hx => h1' x (by simp [hx])) (k + 1)
    obtain ⟨ta, tc, hc, r⟩ := h i hi
    refine ⟨ta, tc, ?_, r⟩
    rw [World.cell?_setCell_other _ _ _ _ (fun e => by rw [e] at hm; rw [hm] at hc; simp at hc)]
    exact hc
end

end Go.Proofs.YtnmljalcndfjmaaGreat
