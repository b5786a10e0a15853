/- The laws' own count of a clause, their comparison of two and their copy of one: a contract each. -/
import Derived.Test.YtknainelonaigaaGreatDoorNGr
import Derived.Test.YtknainelonaigaaGreatDoorNSz
import Derived.Deep.RegionWith
namespace Go.Proofs.YtknainelonaigaaGreatDoor
open Go.RowKit

theorem szPartS_any (a : Option Addr) (n cap : Nat) (left : Int) (w : World) (hl : 0 ≤ left ∧ left ≤ 1048576) (hn : n ≤ 9223372036854775807) :
    Calls Tryz.prog 62 #[.slice a n cap, .int .i64 left] w fun e w' => e = .returned (.int .i64 (szRes left n)) ∧ w' = w := by
  obtain ⟨h0, h1⟩ := hl
  by_cases h : left < n
  · have HE : Hid (szRes left n = -1) := if_pos h
    go_enter Tryz.func62, Tryz.ntmps62
    go_wp2
    go_ret
    exact ⟨ri HE.out.symm, rfl⟩
  · have HE : Hid (szRes left n = left - n) := if_neg h
    go_enter Tryz.func62, Tryz.ntmps62
    go_wp2
    go_ret
    exact ⟨ri HE.out.symm, rfl⟩

set_option maxHeartbeats 1000000 in
theorem szK_any {k f r u xp xn yp yn : Int} {ia : Option Addr} {im ic : Nat} {a b : Int} {xs : List (Int × Int)} {w : World} {lo hi : Nat} (h : RP lo hi w ia im ic xs) (left : Int) (hl : 0 ≤ left ∧ left ≤ 1048576) :
    Calls Tryz.prog 35 #[.agg #[.int .i64 k, .int .i64 f, .int .i64 r, .int .i64 u, .int .i64 xp, .int .i64 xn, .int .i64 yp, .int .i64 yn, .slice ia im ic, .int .i64 a, .int .i64 b], .int .i64 left] w fun e w' => e = .returned (.int .i64 (szRes left im)) ∧ Below w.heap.size w w' := by
  obtain ⟨W, hW⟩ : ∃ W, W = w.alloc (.cells #[.int .i64 k, .int .i64 f, .int .i64 r, .int .i64 u, .int .i64 xp, .int .i64 xn, .int .i64 yp, .int .i64 yn, .slice ia im ic, .int .i64 a, .int .i64 b] 70) := ⟨_, rfl⟩
  have HW : Hid (W = w.alloc (.cells #[.int .i64 k, .int .i64 f, .int .i64 r, .int .i64 u, .int .i64 xp, .int .i64 xn, .int .i64 yp, .int .i64 yn, .slice ia im ic, .int .i64 a, .int .i64 b] 70)) := hW
  have HB0 : Hid (Below w.heap.size w W) := by rw [hW]; exact (Below.refl _ _).alloc (Nat.le_refl _) _
  have hbx : BoxK 70 W w.heap.size k f r u xp xn yp yn (.slice ia im ic) a b := by rw [hW]; exact BoxK.new _ w _ _ _ _ _ _ _ _ _ _ _
  obtain ⟨z0, z1, z2, z3, z4, z5, z6, z7, z8, z9, z10⟩ := hbx.cells
  have HF : Hid (im ≤ 9223372036854775807) := Nat.le_trans h.fits.1 h.fits.2
  obtain ⟨h0, h1⟩ := hl
  clear hW hbx h
  go_enter Tryz.func35, Tryz.ntmps35
  go_upto_region 1 with fail
  rw [← HW.out]
  go_wp2_with fail
  refine (szPartS_any ia im ic left W ⟨h0, h1⟩ HF.out).mono ?_
  rintro e w' ⟨rfl, hw⟩
  rw [hw]
  clear hw
  obtain ⟨q, hq⟩ : ∃ q, q = szRes left im := ⟨_, rfl⟩
  rw [← hq]
  have HQQ : Hid (q = szRes left im) := hq
  have HQ : Hid (q < 0 → q = -1) := by
    unfold szRes at hq
    unfold Hid
    split at hq <;> omega
  clear hq
  by_cases hneg : q < 0
  · have HE : Hid (q = -1) := HQ.out hneg
    go_wp2_with fail
    go_ret
    exact ⟨ri (by rw [← HQQ.out, HE.out]), HB0.out⟩
  · go_wp2_with fail
    go_ret
    exact ⟨ri HQQ.out, HB0.out⟩

theorem eqPart_same (p n : Int) (w : World) :
    Calls Tryz.prog 86 #[.agg #[.int .i64 p, .int .i64 n], .agg #[.int .i64 p, .int .i64 n]] w fun e w' => e = .returned (.bool true) ∧ Below w.heap.size w w' := by
  have hp : (p != p) = false := by simp
  have hn : (n != n) = false := by simp
  have HB0 : Hid (Below w.heap.size w ((w.alloc (.cells #[.int .i64 p, .int .i64 n] 50)).alloc (.cells #[.int .i64 p, .int .i64 n] 50))) := ((Below.refl _ _).alloc (Nat.le_refl _) _).alloc (by simp) _
  go_enter Tryz.func86, Tryz.ntmps86
  go_wp2
  go_ret
  exact ⟨rfl, HB0.out⟩

set_option maxHeartbeats 1000000 in
theorem eqPartS_same {a a' : Option Addr} {n cap cap' : Nat} {xs : List (Int × Int)} {w : World} {lo hi lo' hi' : Nat} (h : RP lo hi w a n cap xs) (h' : RP lo' hi' w a' n cap' xs) (hh : hi ≤ w.heap.size) (hh' : hi' ≤ w.heap.size) :
    Calls Tryz.prog 87 #[.slice a n cap, .slice a' n cap'] w fun e w' => e = .returned (.bool true) ∧ Below w.heap.size w w' := by
  have hb0 : ((n : Int) != (n : Int)) = false := by simp
  have HR : Hid (RP lo hi w a n cap xs) := h
  have HR' : Hid (RP lo' hi' w a' n cap' xs) := h'
  have hn := h.fits
  have hn' := h'.fits
  by_cases hz : n = 0
  · subst hz
    clear h h' HR HR'
    go_enter Tryz.func87, Tryz.ntmps87
    go_wp2
    refine wp_loop_rounds 1 ?_
    rw [rounds_succ]
    go_wp2
    go_ret
    exact ⟨rfl, Below.refl _ _⟩
  · obtain ⟨b, off, rfl⟩ : ∃ b off, a = some ⟨b, off, none⟩ := by
      rcases h.cells with h0 | ⟨b, off, e, _⟩
      · exact absurd h0 hz
      · exact ⟨b, off, e⟩
    obtain ⟨b', off', rfl⟩ : ∃ b off, a' = some ⟨b, off, none⟩ := by
      rcases h'.cells with h0 | ⟨b, off, e, _⟩
      · exact absurd h0 hz
      · exact ⟨b, off, e⟩
    obtain ⟨hn1, hn2⟩ := hn
    obtain ⟨hn1', hn2'⟩ := hn'
    clear h h' hz
    go_enter Tryz.func87, Tryz.ntmps87
    go_wp2
    go_loopw [5] (fun i wr => ∃ k : Nat, k ≤ n ∧ i = .int .i64 k ∧ Below w.heap.size w wr) (fun i _ => n - (intOf i).toNat)
    case atStart => exact ⟨0, Nat.zero_le _, rfl, Below.refl _ _⟩
    case round =>
      obtain ⟨k, hk, rfl, hbel⟩ := hrel
      have HB : Hid (Below w.heap.size w wr) := hbel
      by_cases hlt : k < n
      · obtain ⟨c1, c2, _⟩ := (HR.out.below hbel hh).at hlt
        obtain ⟨c1', c2', _⟩ := (HR'.out.below hbel hh').at hlt
        obtain ⟨t, ht⟩ : ∃ t, t = xs.getD k (0, 0) := ⟨_, rfl⟩
        rw [← ht] at c1 c2 c1' c2'
        obtain ⟨tp, tn⟩ := t
        have hki : (k : Int) < (n : Int) := by omega
        clear ht hbel
        go_wp2
        first | go_region_with (go_at_call 86; refine (eqPart_same tp tn _).mono ?_; rintro e w' ⟨rfl, hbe⟩) | fail
        all_goals
          go_wp2
          go_roundw
          case rel => exact ⟨k + 1, by omega, by go_num, HB.out.drew.trans (hbe.mono HB.out.size)⟩
          case measure => simp [intOf]; omega
      · clear hbel
        go_wp2
        go_ret
        exact ⟨rfl, HB.out⟩

set_option maxRecDepth 100000 in
set_option maxHeartbeats 2000000 in
theorem eqK_any {k f r u xp xn yp yn : Int} {ia : Option Addr} {im ic : Nat} {a b : Int} {xs : List (Int × Int)} {ia' : Option Addr} {ic' : Nat} {w : World} {lo hi lo' hi' : Nat} (h : RP lo hi w ia im ic xs) (h' : RP lo' hi' w ia' im ic' xs) (hhi : hi ≤ w.heap.size) (hhi' : hi' ≤ w.heap.size) :
    Calls Tryz.prog 60 #[.agg #[.int .i64 k, .int .i64 f, .int .i64 r, .int .i64 u, .int .i64 xp, .int .i64 xn, .int .i64 yp, .int .i64 yn, .slice ia im ic, .int .i64 a, .int .i64 b], .agg #[.int .i64 k, .int .i64 f, .int .i64 r, .int .i64 u, .int .i64 xp, .int .i64 xn, .int .i64 yp, .int .i64 yn, .slice ia' im ic', .int .i64 a, .int .i64 b]] w fun e w' => e = .returned (.bool true) ∧ Below w.heap.size w w' := by
  obtain ⟨W0, hW0⟩ : ∃ W0, W0 = (w.alloc (.cells #[.int .i64 k, .int .i64 f, .int .i64 r, .int .i64 u, .int .i64 xp, .int .i64 xn, .int .i64 yp, .int .i64 yn, .slice ia im ic, .int .i64 a, .int .i64 b] 53)).alloc (.cells #[.int .i64 k, .int .i64 f, .int .i64 r, .int .i64 u, .int .i64 xp, .int .i64 xn, .int .i64 yp, .int .i64 yn, .slice ia' im ic', .int .i64 a, .int .i64 b] 53) := ⟨_, rfl⟩
  have HW0 : Hid (W0 = (w.alloc (.cells #[.int .i64 k, .int .i64 f, .int .i64 r, .int .i64 u, .int .i64 xp, .int .i64 xn, .int .i64 yp, .int .i64 yn, .slice ia im ic, .int .i64 a, .int .i64 b] 53)).alloc (.cells #[.int .i64 k, .int .i64 f, .int .i64 r, .int .i64 u, .int .i64 xp, .int .i64 xn, .int .i64 yp, .int .i64 yn, .slice ia' im ic', .int .i64 a, .int .i64 b] 53)) := hW0
  have hb0 : Below w.heap.size w W0 := by rw [hW0]; exact ((Below.refl _ _).alloc (Nat.le_refl _) _).alloc (by simp) _
  have HB0 : Hid (Below w.heap.size w W0) := hb0
  have hbx : BoxK 53 W0 w.heap.size k f r u xp xn yp yn (.slice ia im ic) a b := by rw [hW0]; exact (BoxK.new _ w _ _ _ _ _ _ _ _ _ _ _).below ((Below.refl _ _).alloc (Nat.le_refl _) _) (by simp)
  have hby : BoxK 53 W0 (w.heap.size + 1) k f r u xp xn yp yn (.slice ia' im ic') a b := by
    rw [hW0]
    have := BoxK.new 53 (w.alloc (.cells #[.int .i64 k, .int .i64 f, .int .i64 r, .int .i64 u, .int .i64 xp, .int .i64 xn, .int .i64 yp, .int .i64 yn, .slice ia im ic, .int .i64 a, .int .i64 b] 53)) k f r u xp xn yp yn (.slice ia' im ic') a b
    rwa [World.size_alloc] at this
  have HR : Hid (∀ W, Below W0.heap.size W0 W → RP lo hi W ia im ic xs ∧ hi ≤ W.heap.size) := fun W hW => ⟨(h.below hb0 hhi).below hW (Nat.le_trans hhi hb0.size), Nat.le_trans hhi (Nat.le_trans hb0.size hW.size)⟩
  have HR' : Hid (∀ W, Below W0.heap.size W0 W → RP lo' hi' W ia' im ic' xs ∧ hi' ≤ W.heap.size) := fun W hW => ⟨(h'.below hb0 hhi').below hW (Nat.le_trans hhi' hb0.size), Nat.le_trans hhi' (Nat.le_trans hb0.size hW.size)⟩
  have HX : Hid (∀ W, Below W0.heap.size W0 W → BoxK 53 W w.heap.size k f r u xp xn yp yn (.slice ia im ic) a b) := fun W hW => hbx.below hW hbx.lt
  have HY : Hid (∀ W, Below W0.heap.size W0 W → BoxK 53 W (w.heap.size + 1) k f r u xp xn yp yn (.slice ia' im ic') a b) := fun W hW => hby.below hW hby.lt
  have d0 : (k != k) = false := by simp
  have d1 : (f != f) = false := by simp
  have d2 : (r != r) = false := by simp
  have d3 : (u != u) = false := by simp
  have d4 : (a != a) = false := by simp
  have d5 : (b != b) = false := by simp
  obtain ⟨z0, z1, z2, z3, z4, z5, z6, z7, z8, z9, z10⟩ := hbx.cells
  obtain ⟨y0, y1, y2, y3, y4, y5, y6, y7, y8, y9, y10⟩ := hby.cells
  clear h h' hb0 hW0 hbx hby
  go_enter Tryz.func60, Tryz.ntmps60
  go_upto_region 1 with fail
  rw [← HW0.out]
  go_wp2_with fail
  refine (eqPart_same xp xn W0).mono ?_
  rintro e w1 ⟨rfl, hb1⟩
  have H1 : Hid (Below W0.heap.size W0 w1) := hb1
  clear hb1 z0 z1 z2 z3 z4 z5 z6 z7 z8 z9 z10 y0 y1 y2 y3 y4 y5 y6 y7 y8 y9 y10
  obtain ⟨z0, z1, z2, z3, z4, z5, z6, z7, z8, z9, z10⟩ := (HX.out _ H1.out).cells
  obtain ⟨y0, y1, y2, y3, y4, y5, y6, y7, y8, y9, y10⟩ := (HY.out _ H1.out).cells
  go_wp2_with fail
  refine (eqPart_same yp yn w1).mono ?_
  rintro e w2 ⟨rfl, hb2⟩
  have H2 : Hid (Below W0.heap.size W0 w2) := H1.out.trans (hb2.mono H1.out.size)
  clear hb2 z0 z1 z2 z3 z4 z5 z6 z7 z8 z9 z10 y0 y1 y2 y3 y4 y5 y6 y7 y8 y9 y10
  obtain ⟨z0, z1, z2, z3, z4, z5, z6, z7, z8, z9, z10⟩ := (HX.out _ H2.out).cells
  obtain ⟨y0, y1, y2, y3, y4, y5, y6, y7, y8, y9, y10⟩ := (HY.out _ H2.out).cells
  go_wp2_with fail
  refine (eqPartS_same (HR.out _ H2.out).1 (HR'.out _ H2.out).1 (HR.out _ H2.out).2 (HR'.out _ H2.out).2).mono ?_
  rintro e w3 ⟨rfl, hb3⟩
  have H3 : Hid (Below W0.heap.size W0 w3) := H2.out.trans (hb3.mono H2.out.size)
  clear hb3 z0 z1 z2 z3 z4 z5 z6 z7 z8 z9 z10 y0 y1 y2 y3 y4 y5 y6 y7 y8 y9 y10
  obtain ⟨z0, z1, z2, z3, z4, z5, z6, z7, z8, z9, z10⟩ := (HX.out _ H3.out).cells
  obtain ⟨y0, y1, y2, y3, y4, y5, y6, y7, y8, y9, y10⟩ := (HY.out _ H3.out).cells
  go_wp2_with fail
  go_ret
  exact ⟨rfl, HB0.out.trans (H3.out.mono HB0.out.size)⟩

/-! ### The copy -/

theorem Tryz.infoPart : (Tryz.prog.info? 50).map (fun i => (i.zero, i.size, i.bytes)) = some (some (.agg #[.int .i64 0, .int .i64 0]), 2, 16) := by kernel_rfl

/-- The cell j of a row of parts of which the first k are laid. -/
def cellP (xs : List (Int × Int)) (k j : Nat) : Value :=
  if j / 2 < k then (if j % 2 = 0 then .int .i64 (xs.getD (j / 2) (0, 0)).1 else .int .i64 (xs.getD (j / 2) (0, 0)).2) else .int .i64 0

theorem cellP_new (xs : List (Int × Int)) {k i : Nat} (h : i < k) : cellP xs k (i * 2) = .int .i64 (xs.getD i (0, 0)).1 ∧ cellP xs k (i * 2 + 1) = .int .i64 (xs.getD i (0, 0)).2 := by
  have e0 : i * 2 / 2 = i := by omega
  have e1 : (i * 2 + 1) / 2 = i := by omega
  have m1 : (i * 2 + 1) % 2 = 1 := by omega
  refine ⟨?_, ?_⟩
  · simp [cellP, e0, h]
  · simp [cellP, e1, m1, h]

theorem cellP_old (xs : List (Int × Int)) {k i : Nat} (h : k ≤ i) : cellP xs k (i * 2) = .int .i64 0 ∧ cellP xs k (i * 2 + 1) = .int .i64 0 := by
  have e0 : i * 2 / 2 = i := by omega
  have e1 : (i * 2 + 1) / 2 = i := by omega
  have hn : ¬ i < k := by omega
  refine ⟨?_, ?_⟩
  · simp [cellP, e0, hn]
  · simp [cellP, e1, hn]

theorem rowP_made (w : World) (xs : List (Int × Int)) (n : Nat) : (w.alloc (.cells (madeCells #[.int .i64 0, .int .i64 0] (n * 2)) 50)).rowIs w.heap.size 50 (n * 2) (cellP xs 0) := by
  have key := World.rowIs_alloc w (madeCells #[.int .i64 0, .int .i64 0] (n * 2)) 50 (cellP xs 0) (fun i hi => ?_)
  · rw [size_madeCells] at key; exact key
  rw [size_madeCells] at hi
  have : i % 2 = 0 ∨ i % 2 = 1 := by omega
  rcases this with h | h <;> simp [madeCells, hi, cellP, h]

theorem rowP_step {w : World} {g n k : Nat} {xs : List (Int × Int)} {p q : Int} (hp : p = (xs.getD k (0, 0)).1) (hq : q = (xs.getD k (0, 0)).2) (h : w.rowIs g 50 (n * 2) (cellP xs k)) :
    ((w.setCell ⟨g, k * 2, none⟩ (.int .i64 p)).setCell ⟨g, k * 2 + 1, none⟩ (.int .i64 q)).rowIs g 50 (n * 2) (cellP xs (k + 1)) := by
  subst hp hq
  refine ((h.set (k * 2) _).set (k * 2 + 1) _).congr fun j hj => ?_
  have hd : ∃ i, j = i * 2 ∨ j = i * 2 + 1 := ⟨j / 2, by omega⟩
  obtain ⟨i, hd⟩ := hd
  by_cases hik : i = k
  · subst hik
    obtain ⟨c0, c1⟩ := cellP_new xs (Nat.lt_succ_self i)
    rcases hd with rfl | rfl
    · rw [c0]; simp
    · rw [c1]; simp
  · have n0 : j ≠ k * 2 := by omega
    have n1 : j ≠ k * 2 + 1 := by omega
    simp only [if_neg n0, if_neg n1]
    by_cases hlt : i < k
    · obtain ⟨c0, c1⟩ := cellP_new xs (show i < k + 1 by omega)
      obtain ⟨d0, d1⟩ := cellP_new xs hlt
      rcases hd with rfl | rfl
      · rw [c0, d0]
      · rw [c1, d1]
    · obtain ⟨c0, c1⟩ := cellP_old xs (show k + 1 ≤ i by omega)
      obtain ⟨d0, d1⟩ := cellP_old xs (show k ≤ i by omega)
      rcases hd with rfl | rfl
      · rw [c0, d0]
      · rw [c1, d1]

theorem rowP_rd {lo hi : Nat} {w : World} {g n : Nat} {xs : List (Int × Int)} (h : w.rowIs g 50 (n * 2) (cellP xs n)) (hl : xs.length = n) (hn : n ≤ 1048576) (h1 : lo ≤ g) (h2 : g < hi) : RP lo hi w (some ⟨g, 0, none⟩) n n xs := by
  refine ⟨hl, ⟨Nat.le_refl _, by omega⟩, .inr ⟨g, 0, rfl, h1, h2, fun i hi => ?_⟩⟩
  obtain ⟨c0, c1⟩ := cellP_new xs hi
  simp only [Nat.zero_add]
  rw [h.cell (show i * 2 < n * 2 by omega), h.cell (show i * 2 + 1 < n * 2 by omega), c0, c1]
  exact ⟨rfl, rfl⟩

/-! ### A clause, whole -/

def set11 (W : World) (q : Nat) (v0 v1 v2 v3 v4 v5 v6 v7 v8 v9 v10 : Value) : World := (((((((((((W.setCell ⟨q, 0, none⟩ v0).setCell ⟨q, 1, none⟩ v1).setCell ⟨q, 2, none⟩ v2).setCell ⟨q, 3, none⟩ v3).setCell ⟨q, 4, none⟩ v4).setCell ⟨q, 5, none⟩ v5).setCell ⟨q, 6, none⟩ v6).setCell ⟨q, 7, none⟩ v7).setCell ⟨q, 8, none⟩ v8).setCell ⟨q, 9, none⟩ v9).setCell ⟨q, 10, none⟩ v10)

theorem heap_set11 (W : World) {b q : Nat} (v0 v1 v2 v3 v4 v5 v6 v7 v8 v9 v10 : Value) (hb : b ≠ q) : (set11 W q v0 v1 v2 v3 v4 v5 v6 v7 v8 v9 v10).heap[b]? = W.heap[b]? := by
  unfold set11
  rw [Below.heap_setCell _ ⟨q, 10, none⟩ _ b hb, Below.heap_setCell _ ⟨q, 9, none⟩ _ b hb, Below.heap_setCell _ ⟨q, 8, none⟩ _ b hb, Below.heap_setCell _ ⟨q, 7, none⟩ _ b hb, Below.heap_setCell _ ⟨q, 6, none⟩ _ b hb, Below.heap_setCell _ ⟨q, 5, none⟩ _ b hb, Below.heap_setCell _ ⟨q, 4, none⟩ _ b hb, Below.heap_setCell _ ⟨q, 3, none⟩ _ b hb, Below.heap_setCell _ ⟨q, 2, none⟩ _ b hb, Below.heap_setCell _ ⟨q, 1, none⟩ _ b hb, Below.heap_setCell _ ⟨q, 0, none⟩ _ b hb]

theorem size_set11 (W : World) (q : Nat) (v0 v1 v2 v3 v4 v5 v6 v7 v8 v9 v10 : Value) : (set11 W q v0 v1 v2 v3 v4 v5 v6 v7 v8 v9 v10).heap.size = W.heap.size := by unfold set11; simp

theorem below_set11 {B : Nat} {w W : World} (h : Below B w W) {q : Nat} (hp : B ≤ q) (v0 v1 v2 v3 v4 v5 v6 v7 v8 v9 v10 : Value) : Below B w (set11 W q v0 v1 v2 v3 v4 v5 v6 v7 v8 v9 v10) :=
  ((((((((((h.setCell hp _).setCell hp _).setCell hp _).setCell hp _).setCell hp _).setCell hp _).setCell hp _).setCell hp _).setCell hp _).setCell hp _).setCell hp _

theorem BoxK.set11 {t : Nat} {W : World} {q : Nat} {k f r u xp xn yp yn : Int} {s : Value} {a b : Int} (h : BoxK t W q k f r u xp xn yp yn s a b) (k' f' r' u' xp' xn' yp' yn' : Int) (s' : Value) (a' b' : Int) :
    BoxK t (set11 W q (.int .i64 k') (.int .i64 f') (.int .i64 r') (.int .i64 u') (.int .i64 xp') (.int .i64 xn') (.int .i64 yp') (.int .i64 yn') s' (.int .i64 a') (.int .i64 b')) q k' f' r' u' xp' xn' yp' yn' s' a' b' := by
  have e0 : BoxK t (W.setCell ⟨q, 0, none⟩ (.int .i64 k')) q k' f r u xp xn yp yn s a b := h.at 0 _
  have e1 : BoxK t ((W.setCell ⟨q, 0, none⟩ (.int .i64 k')).setCell ⟨q, 1, none⟩ (.int .i64 f')) q k' f' r u xp xn yp yn s a b := e0.at 1 _
  have e2 : BoxK t (((W.setCell ⟨q, 0, none⟩ (.int .i64 k')).setCell ⟨q, 1, none⟩ (.int .i64 f')).setCell ⟨q, 2, none⟩ (.int .i64 r')) q k' f' r' u xp xn yp yn s a b := e1.at 2 _
  have e3 : BoxK t ((((W.setCell ⟨q, 0, none⟩ (.int .i64 k')).setCell ⟨q, 1, none⟩ (.int .i64 f')).setCell ⟨q, 2, none⟩ (.int .i64 r')).setCell ⟨q, 3, none⟩ (.int .i64 u')) q k' f' r' u' xp xn yp yn s a b := e2.at 3 _
  have e4 : BoxK t (((((W.setCell ⟨q, 0, none⟩ (.int .i64 k')).setCell ⟨q, 1, none⟩ (.int .i64 f')).setCell ⟨q, 2, none⟩ (.int .i64 r')).setCell ⟨q, 3, none⟩ (.int .i64 u')).setCell ⟨q, 4, none⟩ (.int .i64 xp')) q k' f' r' u' xp' xn yp yn s a b := e3.at 4 _
  have e5 : BoxK t ((((((W.setCell ⟨q, 0, none⟩ (.int .i64 k')).setCell ⟨q, 1, none⟩ (.int .i64 f')).setCell ⟨q, 2, none⟩ (.int .i64 r')).setCell ⟨q, 3, none⟩ (.int .i64 u')).setCell ⟨q, 4, none⟩ (.int .i64 xp')).setCell ⟨q, 5, none⟩ (.int .i64 xn')) q k' f' r' u' xp' xn' yp yn s a b := e4.at 5 _
  have e6 : BoxK t (((((((W.setCell ⟨q, 0, none⟩ (.int .i64 k')).setCell ⟨q, 1, none⟩ (.int .i64 f')).setCell ⟨q, 2, none⟩ (.int .i64 r')).setCell ⟨q, 3, none⟩ (.int .i64 u')).setCell ⟨q, 4, none⟩ (.int .i64 xp')).setCell ⟨q, 5, none⟩ (.int .i64 xn')).setCell ⟨q, 6, none⟩ (.int .i64 yp')) q k' f' r' u' xp' xn' yp' yn s a b := e5.at 6 _
  have e7 : BoxK t ((((((((W.setCell ⟨q, 0, none⟩ (.int .i64 k')).setCell ⟨q, 1, none⟩ (.int .i64 f')).setCell ⟨q, 2, none⟩ (.int .i64 r')).setCell ⟨q, 3, none⟩ (.int .i64 u')).setCell ⟨q, 4, none⟩ (.int .i64 xp')).setCell ⟨q, 5, none⟩ (.int .i64 xn')).setCell ⟨q, 6, none⟩ (.int .i64 yp')).setCell ⟨q, 7, none⟩ (.int .i64 yn')) q k' f' r' u' xp' xn' yp' yn' s a b := e6.at 7 _
  have e8 : BoxK t (((((((((W.setCell ⟨q, 0, none⟩ (.int .i64 k')).setCell ⟨q, 1, none⟩ (.int .i64 f')).setCell ⟨q, 2, none⟩ (.int .i64 r')).setCell ⟨q, 3, none⟩ (.int .i64 u')).setCell ⟨q, 4, none⟩ (.int .i64 xp')).setCell ⟨q, 5, none⟩ (.int .i64 xn')).setCell ⟨q, 6, none⟩ (.int .i64 yp')).setCell ⟨q, 7, none⟩ (.int .i64 yn')).setCell ⟨q, 8, none⟩ s') q k' f' r' u' xp' xn' yp' yn' s' a b := e7.at 8 _
  have e9 : BoxK t ((((((((((W.setCell ⟨q, 0, none⟩ (.int .i64 k')).setCell ⟨q, 1, none⟩ (.int .i64 f')).setCell ⟨q, 2, none⟩ (.int .i64 r')).setCell ⟨q, 3, none⟩ (.int .i64 u')).setCell ⟨q, 4, none⟩ (.int .i64 xp')).setCell ⟨q, 5, none⟩ (.int .i64 xn')).setCell ⟨q, 6, none⟩ (.int .i64 yp')).setCell ⟨q, 7, none⟩ (.int .i64 yn')).setCell ⟨q, 8, none⟩ s').setCell ⟨q, 9, none⟩ (.int .i64 a')) q k' f' r' u' xp' xn' yp' yn' s' a' b := e8.at 9 _
  have e10 : BoxK t (((((((((((W.setCell ⟨q, 0, none⟩ (.int .i64 k')).setCell ⟨q, 1, none⟩ (.int .i64 f')).setCell ⟨q, 2, none⟩ (.int .i64 r')).setCell ⟨q, 3, none⟩ (.int .i64 u')).setCell ⟨q, 4, none⟩ (.int .i64 xp')).setCell ⟨q, 5, none⟩ (.int .i64 xn')).setCell ⟨q, 6, none⟩ (.int .i64 yp')).setCell ⟨q, 7, none⟩ (.int .i64 yn')).setCell ⟨q, 8, none⟩ s').setCell ⟨q, 9, none⟩ (.int .i64 a')).setCell ⟨q, 10, none⟩ (.int .i64 b')) q k' f' r' u' xp' xn' yp' yn' s' a' b' := e9.at 10 _
  exact e10

end Go.Proofs.YtknainelonaigaaGreatDoor
