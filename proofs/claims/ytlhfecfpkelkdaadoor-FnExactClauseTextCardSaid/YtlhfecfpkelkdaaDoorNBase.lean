/- Several texts in one: Mem, Bytes. -/
import Derived.WalkKit
import Derived.WalkSpells
import Derived.WalkLawsBesides
import Derived.Deep.OwnRows
import Derived.Test.YtlhfecfpkelkdaaDoorRows
import Derived.Deep.QuietTactic
import Derived.BigQuiet
namespace Go.Proofs.YtlhfecfpkelkdaaDoor

section
open Go.RowKit

theorem rb {a b : Bool} (h : a = b) : Ending.returned (.bool a) = .returned (.bool b) := by rw [h]
theorem ri {a b : Int} (h : a = b) : Ending.returned (.int .i64 a) = .returned (.int .i64 b) := by rw [h]

theorem drew_add (w : World) (m n : Nat) : (w.drewN m).drewN n = w.drewN (m + n) := by
  induction n with
  | zero => rfl
  | succ n ih => show ((w.drewN m).drewN n).drew = _; rw [ih]; rfl

/-- The blocks from lo on, below hi, are as they were. -/
def Same (lo hi : Nat) (w w' : World) : Prop := ∀ b, lo ≤ b → b < hi → w'.heap[b]? = w.heap[b]?

theorem Same.refl (lo hi : Nat) (w : World) : Same lo hi w w := fun _ _ _ => rfl
theorem Same.trans {lo hi : Nat} {a b c : World} (h : Same lo hi a b) (k : Same lo hi b c) : Same lo hi a c := fun x h1 h2 => (k x h1 h2).trans (h x h1 h2)
theorem Same.mono {lo hi lo' hi' : Nat} {w w' : World} (h : Same lo hi w w') (h1 : lo ≤ lo') (h2 : hi' ≤ hi) : Same lo' hi' w w' := fun b a c => h b (by omega) (by omega)
theorem Same.of_below {lo hi B : Nat} {w w' : World} (h : Below B w w') (hB : hi ≤ B) : Same lo hi w w' := fun b _ h2 => h.block b (by omega)
theorem Same.drew {lo hi : Nat} {w w' : World} (h : Same lo hi w w') (n : Nat) : Same lo hi w (w'.drewN n) := h
theorem Same.cell {lo hi : Nat} {w w' : World} (h : Same lo hi w w') {p : Addr} (h1 : lo ≤ p.block) (h2 : p.block < hi) : w'.cell? p = w.cell? p := World.cell?_of_block (w := w) (h p.block h1 h2)

/-- A slice's value reads as these bytes: it is empty, or leads to a row of cells, in a block from lo on, below hi, that hold them. -/
structure Rd (lo hi : Nat) (w : World) (a : Option Addr) (n cap : Nat) (zs : List Int) : Prop where
  len : zs.length = n
  fits : n ≤ cap ∧ cap ≤ 9223372036854775807
  byte : ∀ i, 0 ≤ zs.getD i 0 ∧ zs.getD i 0 ≤ 255
  cells : n = 0 ∨ ∃ b off, a = some ⟨b, off, none⟩ ∧ lo ≤ b ∧ b < hi ∧ ∀ i, i < n → w.cell? ⟨b, off + i, none⟩ = some (.int .u8 (zs.getD i 0))

theorem Rd.none_of {lo hi : Nat} {w : World} {a : Option Addr} {cap : Nat} (h : cap ≤ 9223372036854775807) : Rd lo hi w a 0 cap [] := ⟨rfl, ⟨Nat.zero_le _, h⟩, by simp, .inl rfl⟩

theorem Rd.same {lo hi : Nat} {w w' : World} {a : Option Addr} {n cap : Nat} {zs : List Int} (h : Rd lo hi w a n cap zs) (hs : Same lo hi w w') : Rd lo hi w' a n cap zs := by
  obtain ⟨hl, hm, hby, hc⟩ := h
  refine ⟨hl, hm, hby, ?_⟩
  rcases hc with h0 | ⟨b, off, e, h1, h2, hc⟩
  · exact .inl h0
  · exact .inr ⟨b, off, e, h1, h2, fun i hi => (hs.cell (p := ⟨b, off + i, none⟩) h1 h2).trans (hc i hi)⟩

theorem Rd.mono {lo hi lo' hi' : Nat} {w : World} {a : Option Addr} {n cap : Nat} {zs : List Int} (h : Rd lo hi w a n cap zs) (h1 : lo' ≤ lo) (h2 : hi ≤ hi') : Rd lo' hi' w a n cap zs := by
  obtain ⟨hl, hm, hby, hc⟩ := h
  refine ⟨hl, hm, hby, ?_⟩
  rcases hc with h0 | ⟨b, off, e, h3, h4, hc⟩
  · exact .inl h0
  · exact .inr ⟨b, off, e, by omega, by omega, hc⟩

theorem Rd.below {lo hi : Nat} {w w' : World} {B : Nat} {a : Option Addr} {n cap : Nat} {zs : List Int} (h : Rd lo hi w a n cap zs) (hb : Below B w w') (hB : hi ≤ B) : Rd lo hi w' a n cap zs := h.same (Same.of_below hb hB)

/-- A row of the call's own: cap cells of type 5, none frozen, the first of them these bytes. -/
def Row (w : World) (g cap : Nat) (zs : List Int) : Prop := ∃ c : Array Value, w.heap[g]? = some (.cells c 5 (0, 0)) ∧ c.size = cap ∧ zs.length ≤ cap ∧ ∀ i, i < zs.length → c[i]? = some (.int .u8 (zs.getD i 0))

theorem Row.cell {w : World} {g cap : Nat} {zs : List Int} (h : Row w g cap zs) {i : Nat} (hi : i < zs.length) : w.cell? ⟨g, i, none⟩ = some (.int .u8 (zs.getD i 0)) := by
  obtain ⟨c, hb, _, _, hc⟩ := h
  simp [World.cell?, hb, hc i hi]

theorem Row.frozen {w : World} {g cap : Nat} {zs : List Int} (h : Row w g cap zs) (i : Nat) : w.frozen? ⟨g, i, none⟩ = false := by
  obtain ⟨c, hb, _⟩ := h
  simp [World.frozen?, hb]

theorem Row.lt {w : World} {g cap : Nat} {zs : List Int} (h : Row w g cap zs) : g < w.heap.size := by
  obtain ⟨c, hb, _⟩ := h
  exact (Array.getElem?_eq_some_iff.1 hb).1

theorem Row.of_block {w w' : World} {g cap : Nat} {zs : List Int} (h : Row w g cap zs) (e : w'.heap[g]? = w.heap[g]?) : Row w' g cap zs := by
  obtain ⟨c, hb, r⟩ := h
  exact ⟨c, e.trans hb, r⟩

theorem Row.below {w w' : World} {B g cap : Nat} {zs : List Int} (h : Row w g cap zs) (hb : Below B w w') (hg : g < B) : Row w' g cap zs := h.of_block (hb.block g hg)
theorem Row.same {lo hi : Nat} {w w' : World} {g cap : Nat} {zs : List Int} (h : Row w g cap zs) (hs : Same lo hi w w') (h1 : lo ≤ g) (h2 : g < hi) : Row w' g cap zs := h.of_block (hs g h1 h2)

/-! ### Marking cells, one number behind the other -/

def marks (w : World) : List (Addr × IntKind) → Int → World
  | [], _ => w
  | (a, kd) :: L, k => marks (w.setCell a (.int kd (kd.wrap k))) L (k + 1)

theorem marks_append (L M : List (Addr × IntKind)) : ∀ (w : World) (k : Int), marks w (L ++ M) k = marks (marks w L k) M (k + L.length) := by
  induction L with
  | nil => intro w k; simp [marks]
  | cons x L ih =>
    intro w k
    obtain ⟨a, kd⟩ := x
    simp only [List.cons_append, marks, ih, List.length_cons]
    congr 1
    omega

/-- Each is a cell that holds a number of its kind and may be written. -/
def LeafOk (w : World) (L : List (Addr × IntKind)) : Prop := ∀ x ∈ L, (∃ n, w.cell? x.1 = some (.int x.2 n)) ∧ w.frozen? x.1 = false

theorem LeafOk.set {w : World} {L : List (Addr × IntKind)} (h : LeafOk w L) {a : Addr} {kd : IntKind} {m : Int} (ha : w.cell? a = some (.int kd m)) (v : Int) : LeafOk (w.setCell a (.int kd v)) L := by
  intro x hx
  obtain ⟨⟨n, hn⟩, hf⟩ := h x hx
  refine ⟨?_, by simpa using hf⟩
  by_cases e : a = x.1
  · subst e
    rw [ha] at hn
    simp at hn
    exact ⟨v, by rw [World.cell?_setCell_same _ _ _ ha, hn.1]⟩
  · exact ⟨n, by rw [World.cell?_setCell_other _ _ _ _ e]; exact hn⟩

theorem LeafOk.marks {L : List (Addr × IntKind)} : ∀ {w : World} {M : List (Addr × IntKind)}, LeafOk w L → LeafOk w M → ∀ k, LeafOk (marks w L k) M ∧ LeafOk (marks w L k) L := by
  induction L with
  | nil => intro w M h1 h2 k; exact ⟨h2, h1⟩
  | cons x L ih =>
    intro w M h1 h2 k
    obtain ⟨a, kd⟩ := x
    obtain ⟨⟨m, hm⟩, hf⟩ := h1 (a, kd) (by simp)
    have h1' := h1.set hm (kd.wrap k)
    have h2' := h2.set hm (kd.wrap k)
    refine ⟨(ih (fun x hx => h1' x (by simp [hx])) h2' (k + 1)).1, ?_⟩
    exact (ih (fun x hx => h1' x (by simp [hx])) h1' (k + 1)).1

/-- The marks are there, from k on. -/
def Held (w : World) : List (Addr × IntKind) → Int → Prop
  | [], _ => True
  | (a, kd) :: L, k => w.cell? a = some (.int kd (kd.wrap k)) ∧ Held w L (k + 1)

theorem held_append {w : World} {L M : List (Addr × IntKind)} : ∀ {k : Int}, Held w (L ++ M) k ↔ Held w L k ∧ Held w M (k + L.length) := by
  induction L with
  | nil => intro k; simp [Held]
  | cons x L ih =>
    intro k
    obtain ⟨a, kd⟩ := x
    simp only [List.cons_append, Held, ih, List.length_cons, and_assoc]
    rw [show k + 1 + (L.length : Int) = k + ((L.length + 1 : Nat) : Int) from by omega]

theorem cell_marks_other {L : List (Addr × IntKind)} : ∀ {w : World} {p : Addr}, (∀ x ∈ L, x.1 ≠ p) → ∀ k, (marks w L k).cell? p = w.cell? p := by
  induction L with
  | nil => intro w p _ k; rfl
  | cons x L ih =>
    intro w p h k
    obtain ⟨a, kd⟩ := x
    rw [marks, ih (fun x hx => h x (by simp [hx]))]
    exact World.cell?_setCell_other _ _ _ _ (h (a, kd) (by simp))

theorem held_marks {L : List (Addr × IntKind)} : ∀ {w : World}, LeafOk w L → (L.map (·.1)).Nodup → ∀ k, Held (marks w L k) L k := by
  induction L with
  | nil => intro w _ _ k; trivial
  | cons x L ih =>
    intro w hL hN k
    obtain ⟨a, kd⟩ := x
    obtain ⟨⟨m, hm⟩, hf⟩ := hL (a, kd) (by simp)
    have h1' := hL.set hm (kd.wrap k)
    simp only [List.map_cons, List.nodup_cons] at hN
    refine ⟨?_, ih (fun x hx => h1' x (by simp [hx])) hN.2 (k + 1)⟩
    rw [marks, cell_marks_other (fun x hx e => hN.1 (by rw [← e]; exact List.mem_map_of_mem hx))]
    exact World.cell?_setCell_same _ _ _ hm

theorem Held.same {lo hi : Nat} {w w' : World} (hs : Same lo hi w w') {L : List (Addr × IntKind)} : ∀ {k : Int}, (∀ x ∈ L, lo ≤ x.1.block ∧ x.1.block < hi) → Held w L k → Held w' L k := by
  induction L with
  | nil => intro k _ _; trivial
  | cons x L ih =>
    intro k hb h
    obtain ⟨a, kd⟩ := x
    have hb' := hb (a, kd) (by simp)
    exact ⟨(hs.cell hb'.1 hb'.2).trans h.1, ih (fun x hx => hb x (by simp [hx])) h.2⟩

/-- A marking turns no block but those of its cells. -/
theorem below_marks {B : Nat} {L : List (Addr × IntKind)} : ∀ {a w : World}, Below B a w → (∀ x ∈ L, B ≤ x.1.block) → ∀ k, Below B a (marks w L k) := by
  induction L with
  | nil => intro a w h _ k; exact h
  | cons x L ih =>
    intro a w h hb k
    obtain ⟨p, kd⟩ := x
    exact ih (h.setCell (hb (p, kd) (by simp)) _) (fun x hx => hb x (by simp [hx])) (k + 1)

theorem same_marks {lo hi : Nat} {L : List (Addr × IntKind)} : ∀ {w : World}, (∀ x ∈ L, x.1.block < lo ∨ hi ≤ x.1.block) → ∀ k, Same lo hi w (marks w L k) := by
  induction L with
  | nil => intro w _ k; exact Same.refl _ _ _
  | cons x L ih =>
    intro w hb k
    obtain ⟨p, kd⟩ := x
    have h1 := hb (p, kd) (by simp)
    refine Same.trans (fun b hb1 hb2 => ?_) (ih (fun x hx => hb x (by simp [hx])) (k + 1))
    exact Below.heap_setCell _ _ _ _ (by simp only at h1; omega)

theorem size_marks {L : List (Addr × IntKind)} : ∀ {w : World} (k : Int), (marks w L k).heap.size = w.heap.size := by
  induction L with
  | nil => intro w k; rfl
  | cons x L ih =>
    intro w k
    obtain ⟨p, kd⟩ := x
    rw [marks, ih]
    simp

theorem wrap64_id {k : Int} (h : 0 ≤ k ∧ k ≤ 4611686018427387904) : IntKind.i64.wrap k = k := by
  simp [IntKind.wrap, IntKind.bits, IntKind.signed]
  omega
end

section
open Go.RowKit

def part (zs : List Int) (k : Nat) (i : Nat) : Value := .int .u8 (if i < k then zs.getD i 0 else 0)

theorem take_eq_succ {xs ys : List Int} {k : Nat} (hx : k < xs.length) (hy : k < ys.length) (h : xs.take k = ys.take k) (e : xs.getD k 0 = ys.getD k 0) : xs.take (k + 1) = ys.take (k + 1) := by
  rw [List.take_succ_eq_append_getElem hx, List.take_succ_eq_append_getElem hy, h]
  simp [List.getD, hx, hy] at e
  rw [e]

set_option maxHeartbeats 400000 in
theorem eqByteS_any (a a' : Option Addr) (n cap n' cap' : Nat) (xs ys : List Int) (w : World) {lo hi lo' hi' : Nat} (h : Rd lo hi w a n cap xs) (h' : Rd lo' hi' w a' n' cap' ys) :
    Calls Tryd.prog 12 #[.slice a n cap, .slice a' n' cap'] w fun e w' => e = .returned (.bool (decide (xs = ys))) ∧ ∃ nd, w' = w.drewN nd := by
  obtain ⟨hl, ⟨hm, hM⟩, hby, hc⟩ := h
  obtain ⟨hl', ⟨hm', hM'⟩, hby', hc'⟩ := h'
  by_cases hne : n = n'
  · subst hne
    have hb0 : ((n : Int) != (n : Int)) = false := by simp
    rcases hc with h0 | ⟨b, off, rfl, hlo, hb, hc⟩
    · subst h0
      have hx : xs = [] := List.eq_nil_of_length_eq_zero hl
      have hy : ys = [] := List.eq_nil_of_length_eq_zero hl'
      have HF : Hid (decide (xs = ys) = true) := by simp [Hid, hx, hy]
      clear hx hy hby hby' hc' hl hl'
      go_enter Tryd.func12, Tryd.ntmps12
      go_wp2
      refine wp_loop_rounds 1 ?_
      rw [rounds_succ]
      go_wp2
      go_ret
      exact ⟨rb HF.out.symm, 0, rfl⟩
    · rcases hc' with h0 | ⟨b', off', rfl, hlo', hb', hc'⟩
      · subst h0
        have hx : xs = [] := List.eq_nil_of_length_eq_zero hl
        have hy : ys = [] := List.eq_nil_of_length_eq_zero hl'
        have HF : Hid (decide (xs = ys) = true) := by simp [Hid, hx, hy]
        clear hx hy hby hby' hc hl hl'
        go_enter Tryd.func12, Tryd.ntmps12
        go_wp2
        refine wp_loop_rounds 1 ?_
        rw [rounds_succ]
        go_wp2
        go_ret
        exact ⟨rb HF.out.symm, 0, rfl⟩
      · have HC : Hid (∀ j, j < n → w.cell? ⟨b, off + j, none⟩ = some (.int .u8 (xs.getD j 0))) := hc
        have HC' : Hid (∀ j, j < n → w.cell? ⟨b', off' + j, none⟩ = some (.int .u8 (ys.getD j 0))) := hc'
        have HL : Hid (xs.length = n) := hl
        have HL' : Hid (ys.length = n) := hl'
        clear hc hby hl hc' hby' hl'
        go_enter Tryd.func12, Tryd.ntmps12
        go_wp2
        go_loopw [5] (fun i wr => ∃ k : Nat, k ≤ n ∧ i = .int .i64 k ∧ xs.take k = ys.take k ∧ ∃ nd, wr = w.drewN nd) (fun i _ => n - (intOf i).toNat)
        case atStart => exact ⟨0, Nat.zero_le _, rfl, by simp, 0, rfl⟩
        case round =>
          obtain ⟨k, hk, rfl, htk, nd, hwr⟩ := hrel
          have HT : Hid (xs.take k = ys.take k) := htk
          clear htk
          subst hwr
          by_cases hlt : k < n
          · obtain ⟨c, HX⟩ : ∃ c, Hid (c = xs.getD k 0) := ⟨_, rfl⟩
            obtain ⟨c', HY⟩ : ∃ c, Hid (c = ys.getD k 0) := ⟨_, rfl⟩
            have hck : w.cell? ⟨b, off + k, none⟩ = some (.int .u8 c) := by rw [HX.out]; exact HC.out k hlt
            have hck' : w.cell? ⟨b', off' + k, none⟩ = some (.int .u8 c') := by rw [HY.out]; exact HC'.out k hlt
            have hki : (k : Int) < (n : Int) := by omega
            by_cases hcc : c = c'
            · have HF : Hid (xs.take (k + 1) = ys.take (k + 1)) := take_eq_succ (by rw [HL.out]; omega) (by rw [HL'.out]; omega) HT.out (by rw [← HX.out, ← HY.out]; exact hcc)
              have hb1 : (c != c') = false := by simp [hcc]
              clear hcc
              go_wp2
              go_quiet (fail)
              go_wp2
              go_roundw
              case rel => exact ⟨k + 1, by omega, by go_num, HF.out, nd + nq, by first | rfl | exact drew_add _ _ _⟩
              case measure => simp [intOf]; omega
            · have HF : Hid (decide (xs = ys) = false) := by unfold Hid; rw [decide_eq_false_iff_not]; intro e; apply hcc; rw [HX.out, HY.out, e]
              have hb1 : (c != c') = true := by simp [hcc]
              clear hcc
              go_wp2
              go_quiet (fail)
              go_wp2
              go_ret
              exact ⟨rb HF.out.symm, nd + nq, by first | rfl | exact drew_add _ _ _⟩
          · have HF : Hid (decide (xs = ys) = true) := by
              have e1 : xs.take k = xs := List.take_of_length_le (by rw [HL.out]; omega)
              have e2 : ys.take k = ys := List.take_of_length_le (by rw [HL'.out]; omega)
              unfold Hid; rw [decide_eq_true_iff, ← e1, ← e2]; exact HT.out
            go_wp2
            go_ret
            exact ⟨rb HF.out.symm, nd, rfl⟩
  · have HF : Hid (decide (xs = ys) = false) := by unfold Hid; rw [decide_eq_false_iff_not]; intro e; rw [e] at hl; omega
    have hb1 : ((n : Int) != (n' : Int)) = true := by simp; omega
    clear hby hby' hc hc' hl hl' hne
    go_enter Tryd.func12, Tryd.ntmps12
    go_wp2
    go_ret
    exact ⟨rb HF.out.symm, 0, rfl⟩

/-! ### marking -/

/-- The cells of a slice of bytes. -/
def leafB (b off n : Nat) : List (Addr × IntKind) := (List.range n).map (fun j => (⟨b, off + j, none⟩, .u8))

theorem leafB_succ (b off n : Nat) : leafB b off (n + 1) = leafB b off n ++ [(⟨b, off + n, none⟩, .u8)] := by simp [leafB, List.range_succ]
theorem leafB_length (b off n : Nat) : (leafB b off n).length = n := by simp [leafB]

set_option maxHeartbeats 400000 in
theorem markByteS_any (a : Option Addr) (n cap : Nat) (k : Int) (w : World) (b off : Nat) (ha : n = 0 ∨ a = some ⟨b, off, none⟩) (hL : LeafOk w (leafB b off n)) (hn : n ≤ 1048576) (hk : 0 ≤ k ∧ k ≤ 1073741824) :
    Calls Tryd.prog 14 #[.slice a n cap, .int .i64 k] w fun e w' => e = .returned (.int .i64 (k + n)) ∧ w' = marks w (leafB b off n) k := by
  obtain ⟨hk0, hk1⟩ := hk
  rcases ha with h0 | rfl
  · subst h0
    clear hL
    go_enter Tryd.func14, Tryd.ntmps14
    go_wp2
    refine wp_loop_rounds 1 ?_
    rw [rounds_succ]
    go_wp2
    go_ret
    exact ⟨ri (by simp), rfl⟩
  · have HL : Hid (LeafOk w (leafB b off n)) := hL
    clear hL
    go_enter Tryd.func14, Tryd.ntmps14
    go_wp2
    go_loopw [1, 5] (fun q i wr => ∃ j : Nat, j ≤ n ∧ i = .int .i64 j ∧ q = .int .i64 (k + j) ∧ wr = marks w (leafB b off j) k) (fun _ i _ => n - (intOf i).toNat)
    case atStart => exact ⟨0, Nat.zero_le _, rfl, by simp, rfl⟩
    case round =>
      obtain ⟨j, hj, rfl, rfl, hwr⟩ := hrel
      by_cases hlt : j < n
      · have hsub : ∀ x ∈ leafB b off j, x ∈ leafB b off n := by
          intro x hx; simp only [leafB, List.mem_map, List.mem_range] at hx ⊢; obtain ⟨i, hi, e⟩ := hx; exact ⟨i, by omega, e⟩
        have hLj : LeafOk w (leafB b off j) := fun x hx => HL.out x (hsub x hx)
        have hmem : ((⟨b, off + j, none⟩ : Addr), IntKind.u8) ∈ leafB b off n := by simp only [leafB, List.mem_map, List.mem_range]; exact ⟨j, hlt, rfl⟩
        have hOk := (hLj.marks HL.out k).1 _ hmem
        rw [← hwr] at hOk
        obtain ⟨⟨m, hm⟩, hf⟩ := hOk
        have HW : Hid (wr.setCell ⟨b, off + j, none⟩ (.int .u8 (IntKind.u8.wrap (k + j))) = marks w (leafB b off (j + 1)) k) := by
          unfold Hid; rw [leafB_succ, marks_append, ← hwr, leafB_length]; rfl
        clear hsub hLj hmem hwr
        go_wp2
        go_roundw
        case rel => exact ⟨j + 1, by omega, by go_num, by go_num, HW.out⟩
        case measure => simp [intOf]; omega
      · have hjn : j = n := by omega
        have HW : Hid (wr = marks w (leafB b off n) k) := by rw [← hjn]; exact hwr
        have HE : Hid (k + (j : Int) = k + n) := by unfold Hid; omega
        clear hwr hjn
        go_wp2
        go_ret
        exact ⟨ri HE.out, HW.out⟩

set_option maxHeartbeats 400000 in
theorem heldByteS_any (a : Option Addr) (n cap : Nat) (k : Int) (w : World) (b off : Nat) (ha : n = 0 ∨ a = some ⟨b, off, none⟩) (hc : ∀ j, j < n → w.cell? ⟨b, off + j, none⟩ = some (.int .u8 (IntKind.u8.wrap (k + j)))) (hn : n ≤ 1048576) (hk : 0 ≤ k ∧ k ≤ 1073741824) :
    Calls Tryd.prog 15 #[.slice a n cap, .int .i64 k] w fun e w' => e = .returned (.int .i64 (k + n)) ∧ w' = w := by
  obtain ⟨hk0, hk1⟩ := hk
  rcases ha with h0 | rfl
  · subst h0
    clear hc
    go_enter Tryd.func15, Tryd.ntmps15
    go_wp2
    refine wp_loop_rounds 1 ?_
    rw [rounds_succ]
    go_wp2
    go_ret
    exact ⟨ri (by simp), rfl⟩
  · have HC : Hid (∀ j, j < n → w.cell? ⟨b, off + j, none⟩ = some (.int .u8 (IntKind.u8.wrap (k + j)))) := hc
    clear hc
    go_enter Tryd.func15, Tryd.ntmps15
    go_wp2
    go_loop [1, 5] (fun q i => ∃ j : Nat, j ≤ n ∧ i = .int .i64 j ∧ q = .int .i64 (k + j)) (fun _ i => n - (intOf i).toNat)
    case atStart => exact ⟨0, Nat.zero_le _, rfl, by simp⟩
    case round =>
      obtain ⟨j, hj, rfl, rfl⟩ := hrel
      by_cases hlt : j < n
      · have hm := HC.out j hlt
        go_wp2
        go_round
        case rel => exact ⟨j + 1, by omega, by go_num, by go_num⟩
        case measure => simp [intOf]; omega
      · have HE : Hid (k + (j : Int) = k + n) := by unfold Hid; omega
        go_wp2
        go_ret
        exact ⟨ri HE.out, rfl⟩

theorem held_leafB {w : World} {b off : Nat} {k : Int} : ∀ {n : Nat}, Held w (leafB b off n) k → ∀ j, j < n → w.cell? ⟨b, off + j, none⟩ = some (.int .u8 (IntKind.u8.wrap (k + j))) := by
  intro n
  induction n with
  | zero => intro _ j hj; omega
  | succ n ih =>
    intro h j hj
    rw [leafB_succ, held_append, leafB_length] at h
    by_cases e : j = n
    · subst e; exact h.2.1
    · exact ih h.1 j (by omega)
end

end Go.Proofs.YtlhfecfpkelkdaaDoor
