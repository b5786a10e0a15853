/- A drawn world: what is under way while it is made. -/
import Derived.Test.YtnmljalcndfjmaaGreatNG23
import Derived.Lib.SlBytesConst
namespace Go.Proofs.YtnmljalcndfjmaaGreat
open Go.RowKit

theorem Tryz.infoDB : (Tryz.prog.info? 4).map (fun i => (i.zero, i.size, i.bytes)) = some (some (.bool false), 1, 1) := by kernel_rfl
theorem Tryz.infoDBS : (Tryz.prog.info? 63).map (fun i => (i.zero, i.size, i.bytes)) = some (some (.slice none 0 0), 1, 24) := by kernel_rfl
theorem Tryz.infoDSS : (Tryz.prog.info? 22).map (fun i => (i.zero, i.size, i.bytes)) = some (some (.slice none 0 0), 1, 24) := by kernel_rfl
theorem Tryz.infoDI : (Tryz.prog.info? 3).map (fun i => (i.zero, i.size, i.bytes)) = some (some (.int .i64 0), 1, 8) := by kernel_rfl

theorem kcAt (W : World) (g : Nat) (x : Int) (h : g = W.heap.size) : (convert 22 22 (.slice (some ⟨g, 0, none⟩) 1 1)).run Tryz.prog (W.alloc (.cells #[.int .u8 x] 5)) = .ok (.slice (some ⟨g, 0, none⟩) 1 1) (W.alloc (.cells #[.int .u8 x] 5 (1, 2))) :=
  by subst h; exact Lib.run_convert_bytes_const W 22 5 #[.int .u8 x] 1 1 Tryz.underlying22 Tryz.underlying5

theorem bmake (n : Nat) (hn : n ≤ 1000) (w : World) : (Instr.makeSlice 63 (.int .i64 (n : Int)) (.int .i64 (n : Int))).run Tryz.prog w = .ok (.slice (some ⟨w.heap.size, 0, none⟩) n n) (w.alloc (.cells (madeCells #[.bool false] n) 4)) := by
  obtain ⟨i0, hi0, hz0, hz1, hz2⟩ := info_parts Tryz.infoDB
  have hr := run_make (P := Tryz.prog) w 63 4 i0 _ Tryz.underlying63 hi0 hz0 .i64 .i64 n n (by omega) (Int.le_refl _) (by rw [hz2]; omega) (by omega)
  simp [hz1] at hr
  exact hr
theorem bmade (n : Nat) (hn : n ≤ 1000) (w : World) {base : Nat} (hb : base ≤ w.heap.size) : OwnBs base (w.alloc (.cells (madeCells #[.bool false] n) 4)) (.slice (some ⟨w.heap.size, 0, none⟩) n n) (List.replicate n false) := by
  have h := World.ownsRow_lit (e := 4) (size := 1) w (madeCells #[.bool false] n) n hb (by unfold maxLen; omega) (by simp [madeCells])
  unfold OwnBs
  rw [List.length_replicate, List.map_replicate]
  rw [toList_madeCells_one] at h
  exact h

/-- The cursor; what is kept; the result's box. -/
structure DwM (B : Nat) (a : Option Addr) (n cap : Nat) (zs : List Int) (hi : Nat) (w w' : World) : Prop where
  cur : Cur w' B a n cap zs hi
  bt : Bt B w.heap.size w w'
  box : BoxW 27 w' w.heap.size 0 (.slice none 0 0) (.slice none 0 0) (.slice none 0 0) (.slice none 0 0) (.slice none 0 0) (.slice none 0 0)

theorem Only.grown {B : Nat} {w w' : World} (o : Only B w w') : w.grownBy w' (some B) := ⟨o.below.os, o.below.tape, o.below.output, o.below.size, fun k h1 h2 => o.other k h1 (fun e => h2 (by rw [e]))⟩
theorem DwM.only {B : Nat} {a : Option Addr} {n cap : Nat} {zs : List Int} {hi : Nat} {w w1 w2 : World} (h : DwM B a n cap zs hi w w1) (hB : B < w.heap.size) (c : Cur w2 B a n cap zs hi) (o : Only B w1 w2) : DwM B a n cap zs hi w w2 :=
  ⟨c, h.bt.trans (o.bt.mono h.bt.size), (o.other _ h.box.lt (by omega)).trans h.box⟩
theorem DwM.grown {B : Nat} {a : Option Addr} {n cap : Nat} {zs : List Int} {hi : Nat} {w w1 w2 : World} {row : Option Nat} (h : DwM B a n cap zs hi w w1) (hB : B < w.heap.size) (hg : w1.grownBy w2 row) (hr : ∀ k, row = some k → w.heap.size < k) : DwM B a n cap zs hi w w2 := by
  have := h.bt.size
  have hl := h.box.lt
  have hk : ∀ q, q ≤ w.heap.size → w2.heap[q]? = w1.heap[q]? := fun q hq => hg.block q (by omega) (fun e => by have := hr q e.symm; omega)
  exact ⟨h.cur.keepB (fun q hq => hk q (by omega)), h.bt.grown hg (by omega) (fun k e => by have := hr k e; omega), (hk _ (Nat.le_refl _)).trans h.box⟩

/-- Behind the first statement: beside that the box of the world under way, and all that was made with it. -/
structure DwI (B : Nat) (a : Option Addr) (n cap : Nat) (zs : List Int) (hi : Nat) (w W2 : World) (p : Nat) (nx : Int) (v1 v2 v3 v4 v5 v6 : Value) (w' : World) : Prop where
  m : DwM B a n cap zs hi w w'
  lt : B < w.heap.size ∧ w.heap.size < p ∧ p < w'.heap.size
  box : BoxW 27 w' p nx v1 v2 v3 v4 v5 v6
  old : Same (w.heap.size + 1) p W2 w'

section
variable {B : Nat} {a : Option Addr} {n cap : Nat} {zs : List Int} {hi : Nat} {w W2 w1 w2 : World} {p : Nat} {nx : Int} {v1 v2 v3 v4 v5 v6 : Value}
theorem DwI.only (h : DwI B a n cap zs hi w W2 p nx v1 v2 v3 v4 v5 v6 w1) (c : Cur w2 B a n cap zs hi) (o : Only B w1 w2) : DwI B a n cap zs hi w W2 p nx v1 v2 v3 v4 v5 v6 w2 := by
  obtain ⟨hm, ⟨h1, h2, h3⟩, hb, ho⟩ := h
  have := o.below.size
  exact ⟨hm.only h1 c o, ⟨h1, h2, by omega⟩, (o.other _ h3 (by omega)).trans hb, ho.trans (fun q a1 a2 => o.other q (by omega) (by omega))⟩
theorem DwI.grown (h : DwI B a n cap zs hi w W2 p nx v1 v2 v3 v4 v5 v6 w1) {row : Option Nat} (hg : w1.grownBy w2 row) (hr : ∀ k, row = some k → p < k) : DwI B a n cap zs hi w W2 p nx v1 v2 v3 v4 v5 v6 w2 := by
  obtain ⟨hm, ⟨h1, h2, h3⟩, hb, ho⟩ := h
  have := hg.size
  exact ⟨hm.grown h1 hg (fun k e => by have := hr k e; omega), ⟨h1, h2, by omega⟩, (hg.block p h3 (fun e => by have := hr p e.symm; omega)).trans hb, ho.trans (fun q a1 a2 => hg.block q (by omega) (fun e => by have := hr q e.symm; omega))⟩
theorem DwI.alloc (h : DwI B a n cap zs hi w W2 p nx v1 v2 v3 v4 v5 v6 w1) (o : Obj) : DwI B a n cap zs hi w W2 p nx v1 v2 v3 v4 v5 v6 (w1.alloc o) := h.grown (World.grownBy_alloc w1 o none) (fun k e => by cases e)
theorem DwI.set (h : DwI B a n cap zs hi w W2 p nx v1 v2 v3 v4 v5 v6 w1) {q o : Nat} (hq : p < q) (u : Value) : DwI B a n cap zs hi w W2 p nx v1 v2 v3 v4 v5 v6 (w1.setCell ⟨q, o, none⟩ u) :=
  h.grown (row := some q) ⟨rfl, rfl, rfl, by simp, fun k _ hk => heap_setCell_other w1 ⟨q, o, none⟩ k u (fun e => hk (by simp [e]))⟩ (fun k e => by simp only [Option.some.injEq] at e; omega)
theorem DwI.set0 (h : DwI B a n cap zs hi w W2 p nx v1 v2 v3 v4 v5 v6 w1) (u : Int) : DwI B a n cap zs hi w W2 p u v1 v2 v3 v4 v5 v6 (w1.setCell ⟨p, 0, none⟩ (.int .i64 u)) := by
  obtain ⟨hm, ⟨h1, h2, h3⟩, hb, ho⟩ := h
  have hg : w1.grownBy (w1.setCell ⟨p, 0, none⟩ (.int .i64 u)) (some p) := ⟨rfl, rfl, rfl, by simp, fun k _ hk => heap_setCell_other w1 ⟨p, 0, none⟩ k (.int .i64 u) (fun e => hk (by simp [e]))⟩
  exact ⟨hm.grown h1 hg (fun k e => by simp only [Option.some.injEq] at e; omega), ⟨h1, h2, by simpa using h3⟩, hb.at 0 (.int .i64 u), ho.trans (fun q a1 a2 => hg.block q (by omega) (fun e => by simp only [Option.some.injEq] at e; omega))⟩
theorem DwI.set1 (h : DwI B a n cap zs hi w W2 p nx v1 v2 v3 v4 v5 v6 w1) (u : Value) : DwI B a n cap zs hi w W2 p nx u v2 v3 v4 v5 v6 (w1.setCell ⟨p, 1, none⟩ u) := by
  obtain ⟨hm, ⟨h1, h2, h3⟩, hb, ho⟩ := h
  have hg : w1.grownBy (w1.setCell ⟨p, 1, none⟩ u) (some p) := ⟨rfl, rfl, rfl, by simp, fun k _ hk => heap_setCell_other w1 ⟨p, 1, none⟩ k u (fun e => hk (by simp [e]))⟩
  exact ⟨hm.grown h1 hg (fun k e => by simp only [Option.some.injEq] at e; omega), ⟨h1, h2, by simpa using h3⟩, hb.at 1 u, ho.trans (fun q a1 a2 => hg.block q (by omega) (fun e => by simp only [Option.some.injEq] at e; omega))⟩
theorem DwI.set2 (h : DwI B a n cap zs hi w W2 p nx v1 v2 v3 v4 v5 v6 w1) (u : Value) : DwI B a n cap zs hi w W2 p nx v1 u v3 v4 v5 v6 (w1.setCell ⟨p, 2, none⟩ u) := by
  obtain ⟨hm, ⟨h1, h2, h3⟩, hb, ho⟩ := h
  have hg : w1.grownBy (w1.setCell ⟨p, 2, none⟩ u) (some p) := ⟨rfl, rfl, rfl, by simp, fun k _ hk => heap_setCell_other w1 ⟨p, 2, none⟩ k u (fun e => hk (by simp [e]))⟩
  exact ⟨hm.grown h1 hg (fun k e => by simp only [Option.some.injEq] at e; omega), ⟨h1, h2, by simpa using h3⟩, hb.at 2 u, ho.trans (fun q a1 a2 => hg.block q (by omega) (fun e => by simp only [Option.some.injEq] at e; omega))⟩
theorem DwI.set3 (h : DwI B a n cap zs hi w W2 p nx v1 v2 v3 v4 v5 v6 w1) (u : Value) : DwI B a n cap zs hi w W2 p nx v1 v2 u v4 v5 v6 (w1.setCell ⟨p, 3, none⟩ u) := by
  obtain ⟨hm, ⟨h1, h2, h3⟩, hb, ho⟩ := h
  have hg : w1.grownBy (w1.setCell ⟨p, 3, none⟩ u) (some p) := ⟨rfl, rfl, rfl, by simp, fun k _ hk => heap_setCell_other w1 ⟨p, 3, none⟩ k u (fun e => hk (by simp [e]))⟩
  exact ⟨hm.grown h1 hg (fun k e => by simp only [Option.some.injEq] at e; omega), ⟨h1, h2, by simpa using h3⟩, hb.at 3 u, ho.trans (fun q a1 a2 => hg.block q (by omega) (fun e => by simp only [Option.some.injEq] at e; omega))⟩
theorem DwI.set4 (h : DwI B a n cap zs hi w W2 p nx v1 v2 v3 v4 v5 v6 w1) (u : Value) : DwI B a n cap zs hi w W2 p nx v1 v2 v3 u v5 v6 (w1.setCell ⟨p, 4, none⟩ u) := by
  obtain ⟨hm, ⟨h1, h2, h3⟩, hb, ho⟩ := h
  have hg : w1.grownBy (w1.setCell ⟨p, 4, none⟩ u) (some p) := ⟨rfl, rfl, rfl, by simp, fun k _ hk => heap_setCell_other w1 ⟨p, 4, none⟩ k u (fun e => hk (by simp [e]))⟩
  exact ⟨hm.grown h1 hg (fun k e => by simp only [Option.some.injEq] at e; omega), ⟨h1, h2, by simpa using h3⟩, hb.at 4 u, ho.trans (fun q a1 a2 => hg.block q (by omega) (fun e => by simp only [Option.some.injEq] at e; omega))⟩
theorem DwI.set6 (h : DwI B a n cap zs hi w W2 p nx v1 v2 v3 v4 v5 v6 w1) (u : Value) : DwI B a n cap zs hi w W2 p nx v1 v2 v3 v4 v5 u (w1.setCell ⟨p, 6, none⟩ u) := by
  obtain ⟨hm, ⟨h1, h2, h3⟩, hb, ho⟩ := h
  have hg : w1.grownBy (w1.setCell ⟨p, 6, none⟩ u) (some p) := ⟨rfl, rfl, rfl, by simp, fun k _ hk => heap_setCell_other w1 ⟨p, 6, none⟩ k u (fun e => hk (by simp [e]))⟩
  exact ⟨hm.grown h1 hg (fun k e => by simp only [Option.some.injEq] at e; omega), ⟨h1, h2, by simpa using h3⟩, hb.at 6 u, ho.trans (fun q a1 a2 => hg.block q (by omega) (fun e => by simp only [Option.some.injEq] at e; omega))⟩
end

theorem allocOld {W : World} {o : Obj} {k : Nat} (h : k < W.heap.size) : (W.alloc o).heap[k]? = W.heap[k]? := by
  show (W.heap.push o)[k]? = _
  rw [Array.getElem?_push, if_neg (Nat.ne_of_lt h)]
theorem allocAt {W : World} {o : Obj} {k : Nat} (h : k = W.heap.size) : (W.alloc o).heap[k]? = some o := by
  subst h
  show (W.heap.push o)[W.heap.size]? = _
  rw [Array.getElem?_push, if_pos rfl]

theorem rowLit {W : World} {g base e : Nat} {cs : Array Value} {n : Nat} (h : W.heap[g]? = some (.cells cs e (0, 0))) (hb : base ≤ g) (hn : cs.size = n) (hm : n ≤ 1000) : W.ownsRow base e 1 (.slice (some ⟨g, 0, none⟩) n n) n cs.toList := by
  subst hn
  exact ⟨by simp, .inr ⟨g, _, cs, rfl, hb, h, Nat.le_refl _, by unfold maxLen; omega, by simp, by rw [Nat.mul_one]; exact List.take_of_length_le (by simp)⟩⟩

theorem DwI.start {B : Nat} {a : Option Addr} {n cap : Nat} {zs : List Int} {hi : Nat} {w Wn : World} {nx : Int} {v1 v2 v3 v4 v5 v6 : Value} (hm : DwM B a n cap zs hi w Wn) (hB : B < w.heap.size) (hs : w.heap.size < Wn.heap.size) :
    DwI B a n cap zs hi w Wn Wn.heap.size nx v1 v2 v3 v4 v5 v6 (Wn.alloc (.cells #[.int .i64 nx, v1, v2, v3, v4, v5, v6] 27)) :=
  ⟨hm.grown hB (World.grownBy_alloc Wn _ none) (fun k e => by cases e), ⟨hB, hs, by simp⟩, BoxW.new _ Wn _ _ _ _ _ _ _, fun q _ h2 => allocOld h2⟩

theorem OwnBs.stored {base : Nat} {W : World} {g N : Nat} {fl : List Bool} (h : OwnBs base W (.slice (some ⟨g, 0, none⟩) N N) fl) (hl : fl.length = N) (j : Nat) (y : Bool) : OwnBs base (W.setCell ⟨g, j, none⟩ (.bool y)) (.slice (some ⟨g, 0, none⟩) N N) (fl.set j y) := by
  subst hl
  have := (World.ownsRow.stored h j (.bool y)).1
  unfold OwnBs
  rw [List.length_set, List.map_set]
  exact this
theorem OwnBs.at {base : Nat} {W : World} {g N : Nat} {fl : List Bool} (h : OwnBs base W (.slice (some ⟨g, 0, none⟩) N N) fl) (hl : fl.length = N) {j : Nat} (hj : j < N) : W.cell? ⟨g, j, none⟩ = some (.bool (fl.getD j false)) ∧ W.frozen? ⟨g, j, none⟩ = false ∧ base ≤ g ∧ g < W.heap.size := by
  subst hl
  refine ⟨?_, World.ownsRow.frozenAt h j, (World.ownsRow.lt h g rfl).1, (World.ownsRow.lt h g rfl).2⟩
  rw [World.ownsRow.cellAt h j (by omega)]
  simp [List.getD, hj]
theorem ownI_app {base : Nat} {W : World} {v : Value} {A : List Int} {x : Int} (h : W.ownsRow base 3 1 v (A.length + 1) (A.map (Value.int .i64) ++ [.int .i64 x])) : OwnI base W v (A ++ [x]) := by
  unfold OwnI
  rw [List.length_append, List.map_append]
  exact h
theorem newsOne (W : World) (x : Value) (e : Nat) : ∀ j u, [x][j]? = some u → (W.alloc (.cells #[x] e)).cell? ((⟨W.heap.size, 0, none⟩ : Addr).add j) = some u := by
  intro j u hu
  have hj : j = 0 := by
    have := (List.getElem?_eq_some_iff.1 hu).1
    simp at this; omega
  subst hj
  have hb : (W.alloc (.cells #[x] e)).heap[W.heap.size]? = some (.cells #[x] e) := allocAt rfl
  simp only [List.getElem?_cons_zero, Option.some.injEq] at hu
  subst hu
  show (W.alloc (.cells #[x] e)).cell? ⟨W.heap.size, 0, none⟩ = some x
  unfold World.cell?
  simp only []
  rw [hb]
  rfl
theorem own_form {base e n : Nat} {W : World} {v : Value} {xs : List Value} (h : W.ownsRow base e 1 v (n + 1) xs) : ∃ g c, v = .slice (some ⟨g, 0, none⟩) (n + 1) c ∧ base ≤ g := by
  rcases h.2 with ⟨_, q⟩ | ⟨g, c, _, hv, hg, _⟩
  · omega
  · exact ⟨g, c, hv, hg⟩

/-- What a drawn world leaves. -/
def DwP (B : Nat) (a : Option Addr) (n cap : Nat) (zs : List Int) (hi : Nat) (w : World) (e : Ending) (w' : World) : Prop :=
  ∃ (N : Nat) (v1 v2 v3 v4 v5 v6 : Value) (sets rels : List (List Bool)) (at' : List Int), e = .returned (.agg #[.int .i64 N, v1, v2, v3, v4, v5, v6]) ∧ (1 ≤ N ∧ N ≤ 3) ∧ (∃ b, v1 = .slice (some ⟨b, 0, none⟩) 3 3) ∧
    OwnSS w.heap.size w' v1 [[65], [66], [67]] ∧ OwnFF w.heap.size w' v2 sets ∧ OwnSS w.heap.size w' v3 [[114], [115]] ∧ OwnFF w.heap.size w' v4 rels ∧ OwnSS w.heap.size w' v5 [[120], [121]] ∧ OwnI w.heap.size w' v6 at' ∧
    (sets.length = 3 ∧ rels.length = 2 ∧ at'.length = 2 ∧ (∀ l ∈ sets, l.length = N)) ∧ Cur w' B a n cap zs hi ∧ Bt B w.heap.size w w'

theorem chainOld {w1 : World} {k : Nat} (hk : k < w1.heap.size) : (((((((((((w1).alloc (.cells #[.int .u8 65] 5 (1, 2))).alloc (.cells #[.int .u8 66] 5 (1, 2))).alloc (.cells #[.int .u8 67] 5 (1, 2))).alloc (.cells #[Value.slice (some ⟨w1.heap.size, 0, none⟩) 1 1, Value.slice (some ⟨w1.heap.size + 1, 0, none⟩) 1 1, Value.slice (some ⟨w1.heap.size + 2, 0, none⟩) 1 1] 22)).alloc (.cells #[.int .u8 114] 5 (1, 2))).alloc (.cells #[.int .u8 115] 5 (1, 2))).alloc (.cells #[Value.slice (some ⟨w1.heap.size + 4, 0, none⟩) 1 1, Value.slice (some ⟨w1.heap.size + 5, 0, none⟩) 1 1] 22)).alloc (.cells #[.int .u8 120] 5 (1, 2))).alloc (.cells #[.int .u8 121] 5 (1, 2))).alloc (.cells #[Value.slice (some ⟨w1.heap.size + 7, 0, none⟩) 1 1, Value.slice (some ⟨w1.heap.size + 8, 0, none⟩) 1 1] 22)).heap[k]? = w1.heap[k]? := by
  repeat rw [allocOld (k := k) (by first | omega | (simp; omega))]
theorem alloc_os (W : World) (o : Obj) : (W.alloc o).os = W.os := rfl
theorem alloc_tape (W : World) (o : Obj) : (W.alloc o).tape = W.tape := rfl
theorem alloc_output (W : World) (o : Obj) : (W.alloc o).output = W.output := rfl
theorem chainGrown (w1 : World) : w1.grownBy (((((((((((w1).alloc (.cells #[.int .u8 65] 5 (1, 2))).alloc (.cells #[.int .u8 66] 5 (1, 2))).alloc (.cells #[.int .u8 67] 5 (1, 2))).alloc (.cells #[Value.slice (some ⟨w1.heap.size, 0, none⟩) 1 1, Value.slice (some ⟨w1.heap.size + 1, 0, none⟩) 1 1, Value.slice (some ⟨w1.heap.size + 2, 0, none⟩) 1 1] 22)).alloc (.cells #[.int .u8 114] 5 (1, 2))).alloc (.cells #[.int .u8 115] 5 (1, 2))).alloc (.cells #[Value.slice (some ⟨w1.heap.size + 4, 0, none⟩) 1 1, Value.slice (some ⟨w1.heap.size + 5, 0, none⟩) 1 1] 22)).alloc (.cells #[.int .u8 120] 5 (1, 2))).alloc (.cells #[.int .u8 121] 5 (1, 2))).alloc (.cells #[Value.slice (some ⟨w1.heap.size + 7, 0, none⟩) 1 1, Value.slice (some ⟨w1.heap.size + 8, 0, none⟩) 1 1] 22)) none :=
  ⟨by simp only [alloc_os], by simp only [alloc_tape], by simp only [alloc_output], by simp; omega, fun k hk _ => chainOld hk⟩
theorem chainAt (w1 : World) : (((((((((((w1).alloc (.cells #[.int .u8 65] 5 (1, 2))).alloc (.cells #[.int .u8 66] 5 (1, 2))).alloc (.cells #[.int .u8 67] 5 (1, 2))).alloc (.cells #[Value.slice (some ⟨w1.heap.size, 0, none⟩) 1 1, Value.slice (some ⟨w1.heap.size + 1, 0, none⟩) 1 1, Value.slice (some ⟨w1.heap.size + 2, 0, none⟩) 1 1] 22)).alloc (.cells #[.int .u8 114] 5 (1, 2))).alloc (.cells #[.int .u8 115] 5 (1, 2))).alloc (.cells #[Value.slice (some ⟨w1.heap.size + 4, 0, none⟩) 1 1, Value.slice (some ⟨w1.heap.size + 5, 0, none⟩) 1 1] 22)).alloc (.cells #[.int .u8 120] 5 (1, 2))).alloc (.cells #[.int .u8 121] 5 (1, 2))).alloc (.cells #[Value.slice (some ⟨w1.heap.size + 7, 0, none⟩) 1 1, Value.slice (some ⟨w1.heap.size + 8, 0, none⟩) 1 1] 22)).heap[w1.heap.size]? = some (.cells #[.int .u8 65] 5 (1, 2)) ∧ (((((((((((w1).alloc (.cells #[.int .u8 65] 5 (1, 2))).alloc (.cells #[.int .u8 66] 5 (1, 2))).alloc (.cells #[.int .u8 67] 5 (1, 2))).alloc (.cells #[Value.slice (some ⟨w1.heap.size, 0, none⟩) 1 1, Value.slice (some ⟨w1.heap.size + 1, 0, none⟩) 1 1, Value.slice (some ⟨w1.heap.size + 2, 0, none⟩) 1 1] 22)).alloc (.cells #[.int .u8 114] 5 (1, 2))).alloc (.cells #[.int .u8 115] 5 (1, 2))).alloc (.cells #[Value.slice (some ⟨w1.heap.size + 4, 0, none⟩) 1 1, Value.slice (some ⟨w1.heap.size + 5, 0, none⟩) 1 1] 22)).alloc (.cells #[.int .u8 120] 5 (1, 2))).alloc (.cells #[.int .u8 121] 5 (1, 2))).alloc (.cells #[Value.slice (some ⟨w1.heap.size + 7, 0, none⟩) 1 1, Value.slice (some ⟨w1.heap.size + 8, 0, none⟩) 1 1] 22)).heap[w1.heap.size + 1]? = some (.cells #[.int .u8 66] 5 (1, 2)) ∧ (((((((((((w1).alloc (.cells #[.int .u8 65] 5 (1, 2))).alloc (.cells #[.int .u8 66] 5 (1, 2))).alloc (.cells #[.int .u8 67] 5 (1, 2))).alloc (.cells #[Value.slice (some ⟨w1.heap.size, 0, none⟩) 1 1, Value.slice (some ⟨w1.heap.size + 1, 0, none⟩) 1 1, Value.slice (some ⟨w1.heap.size + 2, 0, none⟩) 1 1] 22)).alloc (.cells #[.int .u8 114] 5 (1, 2))).alloc (.cells #[.int .u8 115] 5 (1, 2))).alloc (.cells #[Value.slice (some ⟨w1.heap.size + 4, 0, none⟩) 1 1, Value.slice (some ⟨w1.heap.size + 5, 0, none⟩) 1 1] 22)).alloc (.cells #[.int .u8 120] 5 (1, 2))).alloc (.cells #[.int .u8 121] 5 (1, 2))).alloc (.cells #[Value.slice (some ⟨w1.heap.size + 7, 0, none⟩) 1 1, Value.slice (some ⟨w1.heap.size + 8, 0, none⟩) 1 1] 22)).heap[w1.heap.size + 2]? = some (.cells #[.int .u8 67] 5 (1, 2)) ∧ (((((((((((w1).alloc (.cells #[.int .u8 65] 5 (1, 2))).alloc (.cells #[.int .u8 66] 5 (1, 2))).alloc (.cells #[.int .u8 67] 5 (1, 2))).alloc (.cells #[Value.slice (some ⟨w1.heap.size, 0, none⟩) 1 1, Value.slice (some ⟨w1.heap.size + 1, 0, none⟩) 1 1, Value.slice (some ⟨w1.heap.size + 2, 0, none⟩) 1 1] 22)).alloc (.cells #[.int .u8 114] 5 (1, 2))).alloc (.cells #[.int .u8 115] 5 (1, 2))).alloc (.cells #[Value.slice (some ⟨w1.heap.size + 4, 0, none⟩) 1 1, Value.slice (some ⟨w1.heap.size + 5, 0, none⟩) 1 1] 22)).alloc (.cells #[.int .u8 120] 5 (1, 2))).alloc (.cells #[.int .u8 121] 5 (1, 2))).alloc (.cells #[Value.slice (some ⟨w1.heap.size + 7, 0, none⟩) 1 1, Value.slice (some ⟨w1.heap.size + 8, 0, none⟩) 1 1] 22)).heap[w1.heap.size + 3]? = some (.cells #[Value.slice (some ⟨w1.heap.size, 0, none⟩) 1 1, Value.slice (some ⟨w1.heap.size + 1, 0, none⟩) 1 1, Value.slice (some ⟨w1.heap.size + 2, 0, none⟩) 1 1] 22 (0, 0)) ∧ (((((((((((w1).alloc (.cells #[.int .u8 65] 5 (1, 2))).alloc (.cells #[.int .u8 66] 5 (1, 2))).alloc (.cells #[.int .u8 67] 5 (1, 2))).alloc (.cells #[Value.slice (some ⟨w1.heap.size, 0, none⟩) 1 1, Value.slice (some ⟨w1.heap.size + 1, 0, none⟩) 1 1, Value.slice (some ⟨w1.heap.size + 2, 0, none⟩) 1 1] 22)).alloc (.cells #[.int .u8 114] 5 (1, 2))).alloc (.cells #[.int .u8 115] 5 (1, 2))).alloc (.cells #[Value.slice (some ⟨w1.heap.size + 4, 0, none⟩) 1 1, Value.slice (some ⟨w1.heap.size + 5, 0, none⟩) 1 1] 22)).alloc (.cells #[.int .u8 120] 5 (1, 2))).alloc (.cells #[.int .u8 121] 5 (1, 2))).alloc (.cells #[Value.slice (some ⟨w1.heap.size + 7, 0, none⟩) 1 1, Value.slice (some ⟨w1.heap.size + 8, 0, none⟩) 1 1] 22)).heap[w1.heap.size + 4]? = some (.cells #[.int .u8 114] 5 (1, 2)) ∧ (((((((((((w1).alloc (.cells #[.int .u8 65] 5 (1, 2))).alloc (.cells #[.int .u8 66] 5 (1, 2))).alloc (.cells #[.int .u8 67] 5 (1, 2))).alloc (.cells #[Value.slice (some ⟨w1.heap.size, 0, none⟩) 1 1, Value.slice (some ⟨w1.heap.size + 1, 0, none⟩) 1 1, Value.slice (some ⟨w1.heap.size + 2, 0, none⟩) 1 1] 22)).alloc (.cells #[.int .u8 114] 5 (1, 2))).alloc (.cells #[.int .u8 115] 5 (1, 2))).alloc (.cells #[Value.slice (some ⟨w1.heap.size + 4, 0, none⟩) 1 1, Value.slice (some ⟨w1.heap.size + 5, 0, none⟩) 1 1] 22)).alloc (.cells #[.int .u8 120] 5 (1, 2))).alloc (.cells #[.int .u8 121] 5 (1, 2))).alloc (.cells #[Value.slice (some ⟨w1.heap.size + 7, 0, none⟩) 1 1, Value.slice (some ⟨w1.heap.size + 8, 0, none⟩) 1 1] 22)).heap[w1.heap.size + 5]? = some (.cells #[.int .u8 115] 5 (1, 2)) ∧ (((((((((((w1).alloc (.cells #[.int .u8 65] 5 (1, 2))).alloc (.cells #[.int .u8 66] 5 (1, 2))).alloc (.cells #[.int .u8 67] 5 (1, 2))).alloc (.cells #[Value.slice (some ⟨w1.heap.size, 0, none⟩) 1 1, Value.slice (some ⟨w1.heap.size + 1, 0, none⟩) 1 1, Value.slice (some ⟨w1.heap.size + 2, 0, none⟩) 1 1] 22)).alloc (.cells #[.int .u8 114] 5 (1, 2))).alloc (.cells #[.int .u8 115] 5 (1, 2))).alloc (.cells #[Value.slice (some ⟨w1.heap.size + 4, 0, none⟩) 1 1, Value.slice (some ⟨w1.heap.size + 5, 0, none⟩) 1 1] 22)).alloc (.cells #[.int .u8 120] 5 (1, 2))).alloc (.cells #[.int .u8 121] 5 (1, 2))).alloc (.cells #[Value.slice (some ⟨w1.heap.size + 7, 0, none⟩) 1 1, Value.slice (some ⟨w1.heap.size + 8, 0, none⟩) 1 1] 22)).heap[w1.heap.size + 6]? = some (.cells #[Value.slice (some ⟨w1.heap.size + 4, 0, none⟩) 1 1, Value.slice (some ⟨w1.heap.size + 5, 0, none⟩) 1 1] 22 (0, 0)) ∧ (((((((((((w1).alloc (.cells #[.int .u8 65] 5 (1, 2))).alloc (.cells #[.int .u8 66] 5 (1, 2))).alloc (.cells #[.int .u8 67] 5 (1, 2))).alloc (.cells #[Value.slice (some ⟨w1.heap.size, 0, none⟩) 1 1, Value.slice (some ⟨w1.heap.size + 1, 0, none⟩) 1 1, Value.slice (some ⟨w1.heap.size + 2, 0, none⟩) 1 1] 22)).alloc (.cells #[.int .u8 114] 5 (1, 2))).alloc (.cells #[.int .u8 115] 5 (1, 2))).alloc (.cells #[Value.slice (some ⟨w1.heap.size + 4, 0, none⟩) 1 1, Value.slice (some ⟨w1.heap.size + 5, 0, none⟩) 1 1] 22)).alloc (.cells #[.int .u8 120] 5 (1, 2))).alloc (.cells #[.int .u8 121] 5 (1, 2))).alloc (.cells #[Value.slice (some ⟨w1.heap.size + 7, 0, none⟩) 1 1, Value.slice (some ⟨w1.heap.size + 8, 0, none⟩) 1 1] 22)).heap[w1.heap.size + 7]? = some (.cells #[.int .u8 120] 5 (1, 2)) ∧ (((((((((((w1).alloc (.cells #[.int .u8 65] 5 (1, 2))).alloc (.cells #[.int .u8 66] 5 (1, 2))).alloc (.cells #[.int .u8 67] 5 (1, 2))).alloc (.cells #[Value.slice (some ⟨w1.heap.size, 0, none⟩) 1 1, Value.slice (some ⟨w1.heap.size + 1, 0, none⟩) 1 1, Value.slice (some ⟨w1.heap.size + 2, 0, none⟩) 1 1] 22)).alloc (.cells #[.int .u8 114] 5 (1, 2))).alloc (.cells #[.int .u8 115] 5 (1, 2))).alloc (.cells #[Value.slice (some ⟨w1.heap.size + 4, 0, none⟩) 1 1, Value.slice (some ⟨w1.heap.size + 5, 0, none⟩) 1 1] 22)).alloc (.cells #[.int .u8 120] 5 (1, 2))).alloc (.cells #[.int .u8 121] 5 (1, 2))).alloc (.cells #[Value.slice (some ⟨w1.heap.size + 7, 0, none⟩) 1 1, Value.slice (some ⟨w1.heap.size + 8, 0, none⟩) 1 1] 22)).heap[w1.heap.size + 8]? = some (.cells #[.int .u8 121] 5 (1, 2)) ∧ (((((((((((w1).alloc (.cells #[.int .u8 65] 5 (1, 2))).alloc (.cells #[.int .u8 66] 5 (1, 2))).alloc (.cells #[.int .u8 67] 5 (1, 2))).alloc (.cells #[Value.slice (some ⟨w1.heap.size, 0, none⟩) 1 1, Value.slice (some ⟨w1.heap.size + 1, 0, none⟩) 1 1, Value.slice (some ⟨w1.heap.size + 2, 0, none⟩) 1 1] 22)).alloc (.cells #[.int .u8 114] 5 (1, 2))).alloc (.cells #[.int .u8 115] 5 (1, 2))).alloc (.cells #[Value.slice (some ⟨w1.heap.size + 4, 0, none⟩) 1 1, Value.slice (some ⟨w1.heap.size + 5, 0, none⟩) 1 1] 22)).alloc (.cells #[.int .u8 120] 5 (1, 2))).alloc (.cells #[.int .u8 121] 5 (1, 2))).alloc (.cells #[Value.slice (some ⟨w1.heap.size + 7, 0, none⟩) 1 1, Value.slice (some ⟨w1.heap.size + 8, 0, none⟩) 1 1] 22)).heap[w1.heap.size + 9]? = some (.cells #[Value.slice (some ⟨w1.heap.size + 7, 0, none⟩) 1 1, Value.slice (some ⟨w1.heap.size + 8, 0, none⟩) 1 1] 22 (0, 0)) := by
  refine ⟨?_, ?_, ?_, ?_, ?_, ?_, ?_, ?_, ?_, ?_⟩ <;> ((repeat rw [allocOld (by first | (simp; done) | (simp; omega))]); exact allocAt (by simp))
theorem chainSS {w1 W : World} {base : Nat} (h : W.heap[w1.heap.size]? = some (.cells #[.int .u8 65] 5 (1, 2)) ∧ W.heap[w1.heap.size + 1]? = some (.cells #[.int .u8 66] 5 (1, 2)) ∧ W.heap[w1.heap.size + 2]? = some (.cells #[.int .u8 67] 5 (1, 2)) ∧ W.heap[w1.heap.size + 3]? = some (.cells #[Value.slice (some ⟨w1.heap.size, 0, none⟩) 1 1, Value.slice (some ⟨w1.heap.size + 1, 0, none⟩) 1 1, Value.slice (some ⟨w1.heap.size + 2, 0, none⟩) 1 1] 22 (0, 0)) ∧ W.heap[w1.heap.size + 4]? = some (.cells #[.int .u8 114] 5 (1, 2)) ∧ W.heap[w1.heap.size + 5]? = some (.cells #[.int .u8 115] 5 (1, 2)) ∧ W.heap[w1.heap.size + 6]? = some (.cells #[Value.slice (some ⟨w1.heap.size + 4, 0, none⟩) 1 1, Value.slice (some ⟨w1.heap.size + 5, 0, none⟩) 1 1] 22 (0, 0)) ∧ W.heap[w1.heap.size + 7]? = some (.cells #[.int .u8 120] 5 (1, 2)) ∧ W.heap[w1.heap.size + 8]? = some (.cells #[.int .u8 121] 5 (1, 2)) ∧ W.heap[w1.heap.size + 9]? = some (.cells #[Value.slice (some ⟨w1.heap.size + 7, 0, none⟩) 1 1, Value.slice (some ⟨w1.heap.size + 8, 0, none⟩) 1 1] 22 (0, 0))) (hb : base ≤ w1.heap.size) : OwnSS base W (.slice (some ⟨w1.heap.size + 3, 0, none⟩) 3 3) [[65], [66], [67]] ∧ OwnSS base W (.slice (some ⟨w1.heap.size + 6, 0, none⟩) 2 2) [[114], [115]] ∧ OwnSS base W (.slice (some ⟨w1.heap.size + 9, 0, none⟩) 2 2) [[120], [121]] := by
  obtain ⟨h0, h1, h2, h3, h4, h5, h6, h7, h8, h9⟩ := h
  refine ⟨⟨_, rowLit h3 (by omega) rfl (by decide), fun i hi => ?_⟩, ⟨_, rowLit h6 (by omega) rfl (by decide), fun i hi => ?_⟩, ⟨_, rowLit h9 (by omega) rfl (by decide), fun i hi => ?_⟩⟩
  · match i, hi with
    | 0, _ => exact word_lit h0 (by omega) (by omega)
    | 1, _ => exact word_lit h1 (by omega) (by omega)
    | 2, _ => exact word_lit h2 (by omega) (by omega)
  · match i, hi with
    | 0, _ => exact word_lit h4 (by omega) (by omega)
    | 1, _ => exact word_lit h5 (by omega) (by omega)
  · match i, hi with
    | 0, _ => exact word_lit h7 (by omega) (by omega)
    | 1, _ => exact word_lit h8 (by omega) (by omega)

def put7 (W : World) (b : Nat) (x0 x1 x2 x3 x4 x5 x6 : Value) : World := ((((((W.setCell ⟨b, 0, none⟩ x0).setCell ⟨b, 1, none⟩ x1).setCell ⟨b, 2, none⟩ x2).setCell ⟨b, 3, none⟩ x3).setCell ⟨b, 4, none⟩ x4).setCell ⟨b, 5, none⟩ x5).setCell ⟨b, 6, none⟩ x6
theorem put7_other (W : World) {b k : Nat} (x0 x1 x2 x3 x4 x5 x6 : Value) (h : k ≠ b) : (put7 W b x0 x1 x2 x3 x4 x5 x6).heap[k]? = W.heap[k]? := by
  simp only [put7]
  repeat rw [Below.heap_setCell _ _ _ _ (by exact h)]
theorem put7_size (W : World) (b : Nat) (x0 x1 x2 x3 x4 x5 x6 : Value) : (put7 W b x0 x1 x2 x3 x4 x5 x6).heap.size = W.heap.size := by simp [put7]
theorem setCell_os (W : World) (p : Addr) (v : Value) : (W.setCell p v).os = W.os := rfl
theorem setCell_tape (W : World) (p : Addr) (v : Value) : (W.setCell p v).tape = W.tape := rfl
theorem setCell_output (W : World) (p : Addr) (v : Value) : (W.setCell p v).output = W.output := rfl
theorem put7_keep (W : World) (b : Nat) (x0 x1 x2 x3 x4 x5 x6 : Value) : (put7 W b x0 x1 x2 x3 x4 x5 x6).os = W.os ∧ (put7 W b x0 x1 x2 x3 x4 x5 x6).tape = W.tape ∧ (put7 W b x0 x1 x2 x3 x4 x5 x6).output = W.output := by
  unfold put7
  refine ⟨?_, ?_, ?_⟩
  · simp only [setCell_os]
  · simp only [setCell_tape]
  · simp only [setCell_output]
theorem put7_box {t : Nat} {W : World} {b : Nat} {m0 : Int} {y1 y2 y3 y4 y5 y6 : Value} (h : BoxW t W b m0 y1 y2 y3 y4 y5 y6) (m : Int) (x1 x2 x3 x4 x5 x6 : Value) : BoxW t (put7 W b (.int .i64 m) x1 x2 x3 x4 x5 x6) b m x1 x2 x3 x4 x5 x6 := by
  have h0 : BoxW t (W.setCell ⟨b, 0, none⟩ (.int .i64 m)) b m y1 y2 y3 y4 y5 y6 := h.at 0 _
  have h1 : BoxW t ((W.setCell ⟨b, 0, none⟩ (.int .i64 m)).setCell ⟨b, 1, none⟩ x1) b m x1 y2 y3 y4 y5 y6 := h0.at 1 _
  have h2 : BoxW t (((W.setCell ⟨b, 0, none⟩ (.int .i64 m)).setCell ⟨b, 1, none⟩ x1).setCell ⟨b, 2, none⟩ x2) b m x1 x2 y3 y4 y5 y6 := h1.at 2 _
  have h3 : BoxW t ((((W.setCell ⟨b, 0, none⟩ (.int .i64 m)).setCell ⟨b, 1, none⟩ x1).setCell ⟨b, 2, none⟩ x2).setCell ⟨b, 3, none⟩ x3) b m x1 x2 x3 y4 y5 y6 := h2.at 3 _
  have h4 : BoxW t (((((W.setCell ⟨b, 0, none⟩ (.int .i64 m)).setCell ⟨b, 1, none⟩ x1).setCell ⟨b, 2, none⟩ x2).setCell ⟨b, 3, none⟩ x3).setCell ⟨b, 4, none⟩ x4) b m x1 x2 x3 x4 y5 y6 := h3.at 4 _
  have h5 : BoxW t ((((((W.setCell ⟨b, 0, none⟩ (.int .i64 m)).setCell ⟨b, 1, none⟩ x1).setCell ⟨b, 2, none⟩ x2).setCell ⟨b, 3, none⟩ x3).setCell ⟨b, 4, none⟩ x4).setCell ⟨b, 5, none⟩ x5) b m x1 x2 x3 x4 x5 y6 := h4.at 5 _
  exact h5.at 6 _

set_option maxHeartbeats 1000000 in
theorem DwI.fin {B : Nat} {a : Option Addr} {n cap : Nat} {zs : List Int} {hi : Nat} {w Wn V : World} {p N : Nat} {v1 v2 v3 v4 v5 v6 : Value} {sets rels : List (List Bool)} {at' : List Int}
    (h : DwI B a n cap zs hi w Wn p (N : Int) v1 v2 v3 v4 v5 v6 V) (hN : 1 ≤ N ∧ N ≤ 3) (hv1 : ∃ b, v1 = .slice (some ⟨b, 0, none⟩) 3 3) (hp : p = Wn.heap.size)
    (hnm : OwnSS (w.heap.size + 1) Wn v1 [[65], [66], [67]] ∧ OwnSS (w.heap.size + 1) Wn v3 [[114], [115]] ∧ OwnSS (w.heap.size + 1) Wn v5 [[120], [121]])
    (h2 : OwnFF (p + 1) V v2 sets) (h4 : OwnFF (p + 1) V v4 rels) (h6 : OwnI (p + 1) V v6 at') (hL : sets.length = 3 ∧ rels.length = 2 ∧ at'.length = 2 ∧ (∀ l ∈ sets, l.length = N)) :
    DwP B a n cap zs hi w (.returned (.agg #[.int .i64 N, v1, v2, v3, v4, v5, v6])) (put7 V w.heap.size (.int .i64 N) v1 v2 v3 v4 v5 v6) ∧ BoxW 27 (put7 V w.heap.size (.int .i64 N) v1 v2 v3 v4 v5 v6) w.heap.size (N : Int) v1 v2 v3 v4 v5 v6 := by
  obtain ⟨hm, ⟨q1, q2, q3⟩, _, ho⟩ := h
  have ho' : Same (w.heap.size + 1) Wn.heap.size Wn V := by rw [← hp]; exact ho
  obtain ⟨W', hW'⟩ : ∃ W', W' = put7 V w.heap.size (.int .i64 N) v1 v2 v3 v4 v5 v6 := ⟨_, rfl⟩
  have hoth : ∀ k, k ≠ w.heap.size → W'.heap[k]? = V.heap[k]? := fun k hk => by rw [hW']; exact put7_other _ _ _ _ _ _ _ _ hk
  have hbox : BoxW 27 W' w.heap.size (N : Int) v1 v2 v3 v4 v5 v6 := by rw [hW']; exact put7_box hm.box _ _ _ _ _ _ _
  have hsz : W'.heap.size = V.heap.size := by rw [hW']; exact put7_size _ _ _ _ _ _ _ _ _
  have hos : W'.os = V.os ∧ W'.tape = V.tape ∧ W'.output = V.output := by rw [hW']; exact put7_keep _ _ _ _ _ _ _ _ _
  rw [← hW']
  clear hW'
  have hv : Same (w.heap.size + 1) V.heap.size V W' := fun k k1 _ => hoth k (by omega)
  have hvp : Same (p + 1) V.heap.size V W' := hv.mono (by omega) (Nat.le_refl _)
  have hn' : Same (w.heap.size + 1) Wn.heap.size Wn W' := ho'.trans (hv.mono (Nat.le_refl _) (by omega))
  have hle : w.heap.size ≤ p + 1 := by omega
  have e1 : OwnSS w.heap.size W' v1 [[65], [66], [67]] := OwnSS.base (OwnSS.same hnm.1 hn') (Nat.le_succ _)
  have e3 : OwnSS w.heap.size W' v3 [[114], [115]] := OwnSS.base (OwnSS.same hnm.2.1 hn') (Nat.le_succ _)
  have e5 : OwnSS w.heap.size W' v5 [[120], [121]] := OwnSS.base (OwnSS.same hnm.2.2 hn') (Nat.le_succ _)
  have e2 : OwnFF w.heap.size W' v2 sets := OwnFF.base (OwnFF.same h2 hvp) hle
  have e4 : OwnFF w.heap.size W' v4 rels := OwnFF.base (OwnFF.same h4 hvp) hle
  have e6 : OwnI w.heap.size W' v6 at' := OwnI.mono0 (ownI_same h6 hvp) hle
  have hb := hm.bt
  have e7 : Bt B w.heap.size w W' := ⟨hos.1.trans hb.os, hos.2.1.trans hb.tape, hos.2.2.trans hb.output, by rw [hsz]; exact hb.size, fun k k1 k2 => (hoth k (by omega)).trans (hb.block k k1 k2)⟩
  exact ⟨⟨N, v1, v2, v3, v4, v5, v6, sets, rels, at', rfl, hN, hv1, e1, e2, e3, e4, e5, e6, hL, hm.cur.keepB (fun k hk => hoth k (by omega)), e7⟩, hbox⟩

end Go.Proofs.YtnmljalcndfjmaaGreat
