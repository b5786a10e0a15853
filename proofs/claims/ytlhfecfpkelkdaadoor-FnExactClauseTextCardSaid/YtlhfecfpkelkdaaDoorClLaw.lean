/- The laws' own count of a clause, their comparison of two and their copy of one: a contract each. -/
import Derived.Test.YtlhfecfpkelkdaaDoorNGr
import Derived.Test.YtlhfecfpkelkdaaDoorNOpen
import Derived.Deep.RegionWith
namespace Go.Proofs.YtlhfecfpkelkdaaDoor
open Go.RowKit

theorem szPartS_any (a : Option Addr) (n cap : Nat) (left : Int) (w : World) (hl : 0 ≤ left ∧ left ≤ 1048576) (hn : n ≤ 9223372036854775807) :
    Calls Tryd.prog 16 #[.slice a n cap, .int .i64 left] w fun e w' => e = .returned (.int .i64 (szRes left n)) ∧ w' = w := by
  obtain ⟨h0, h1⟩ := hl
  by_cases h : left < n
  · have HE : Hid (szRes left n = -1) := if_pos h
    go_enter Tryd.func16, Tryd.ntmps16
    go_wp2
    go_ret
    exact ⟨ri HE.out.symm, rfl⟩
  · have HE : Hid (szRes left n = left - n) := if_neg h
    go_enter Tryd.func16, Tryd.ntmps16
    go_wp2
    go_ret
    exact ⟨ri HE.out.symm, rfl⟩

set_option maxHeartbeats 1000000 in
theorem szK_any {k f r u xp xn yp yn : Int} {ia : Option Addr} {im ic : Nat} {a b : Int} {xs : List (Int × Int)} {w : World} {lo hi : Nat} (h : RP lo hi w ia im ic xs) (left : Int) (hl : 0 ≤ left ∧ left ≤ 1048576) :
    Calls Tryd.prog 5 #[.agg #[.int .i64 k, .int .i64 f, .int .i64 r, .int .i64 u, .int .i64 xp, .int .i64 xn, .int .i64 yp, .int .i64 yn, .slice ia im ic, .int .i64 a, .int .i64 b], .int .i64 left] w fun e w' => e = .returned (.int .i64 (szRes left im)) ∧ Below w.heap.size w w' := by
  obtain ⟨W, hW⟩ : ∃ W, W = w.alloc (.cells #[.int .i64 k, .int .i64 f, .int .i64 r, .int .i64 u, .int .i64 xp, .int .i64 xn, .int .i64 yp, .int .i64 yn, .slice ia im ic, .int .i64 a, .int .i64 b] 26) := ⟨_, rfl⟩
  have HW : Hid (W = w.alloc (.cells #[.int .i64 k, .int .i64 f, .int .i64 r, .int .i64 u, .int .i64 xp, .int .i64 xn, .int .i64 yp, .int .i64 yn, .slice ia im ic, .int .i64 a, .int .i64 b] 26)) := hW
  have HB0 : Hid (Below w.heap.size w W) := by rw [hW]; exact (Below.refl _ _).alloc (Nat.le_refl _) _
  have hbx : BoxK 26 W w.heap.size k f r u xp xn yp yn (.slice ia im ic) a b := by rw [hW]; exact BoxK.new _ w _ _ _ _ _ _ _ _ _ _ _
  obtain ⟨z0, z1, z2, z3, z4, z5, z6, z7, z8, z9, z10⟩ := hbx.cells
  have HF : Hid (im ≤ 9223372036854775807) := Nat.le_trans h.fits.1 h.fits.2
  obtain ⟨h0, h1⟩ := hl
  clear hW hbx h
  go_enter Tryd.func5, Tryd.ntmps5
  go_upto_region 1 with fail
  rw [← HW.out]
  go_wp2_with fail
  refine (szPartS_any ia im ic left W ⟨h0, h1⟩ HF.out).mono ?_
  rintro e w' ⟨rfl, hw⟩
  rw [hw]
  clear hw
  obtain ⟨q, hq⟩ : ∃ q, q = szRes left im := ⟨_, rfl⟩
  rw [← hq]
  have HQQ : Hid (q = szRes left im) := hq
  have HQ : Hid (q < 0 → q = -1) := by
    unfold szRes at hq
    unfold Hid
    split at hq <;> omega
  clear hq
  by_cases hneg : q < 0
  · have HE : Hid (q = -1) := HQ.out hneg
    go_wp2_with fail
    go_ret
    exact ⟨ri (by rw [← HQQ.out, HE.out]), HB0.out⟩
  · go_wp2_with fail
    go_ret
    exact ⟨ri HQQ.out, HB0.out⟩

theorem eqPart_same (p n : Int) (w : World) :
    Calls Tryd.prog 24 #[.agg #[.int .i64 p, .int .i64 n], .agg #[.int .i64 p, .int .i64 n]] w fun e w' => e = .returned (.bool true) ∧ Below w.heap.size w w' := by
  have hp : (p != p) = false := by simp
  have hn : (n != n) = false := by simp
  have HB0 : Hid (Below w.heap.size w ((w.alloc (.cells #[.int .i64 p, .int .i64 n] 29)).alloc (.cells #[.int .i64 p, .int .i64 n] 29))) := ((Below.refl _ _).alloc (Nat.le_refl _) _).alloc (by simp) _
  go_enter Tryd.func24, Tryd.ntmps24
  go_wp2
  go_ret
  exact ⟨rfl, HB0.out⟩

set_option maxHeartbeats 1000000 in
theorem eqPartS_same {a a' : Option Addr} {n cap cap' : Nat} {xs : List (Int × Int)} {w : World} {lo hi lo' hi' : Nat} (h : RP lo hi w a n cap xs) (h' : RP lo' hi' w a' n cap' xs) (hh : hi ≤ w.heap.size) (hh' : hi' ≤ w.heap.size) :
    Calls Tryd.prog 25 #[.slice a n cap, .slice a' n cap'] w fun e w' => e = .returned (.bool true) ∧ Below w.heap.size w w' := by
  have hb0 : ((n : Int) != (n : Int)) = false := by simp
  have HR : Hid (RP lo hi w a n cap xs) := h
  have HR' : Hid (RP lo' hi' w a' n cap' xs) := h'
  have hn := h.fits
  have hn' := h'.fits
  by_cases hz : n = 0
  · subst hz
    clear h h' HR HR'
    go_enter Tryd.func25, Tryd.ntmps25
    go_wp2
    refine wp_loop_rounds 1 ?_
    rw [rounds_succ]
    go_wp2
    go_ret
    exact ⟨rfl, Below.refl _ _⟩
  · obtain ⟨b, off, rfl⟩ : ∃ b off, a = some ⟨b, off, none⟩ := by
      rcases h.cells with h0 | ⟨b, off, e, _⟩
      · exact absurd h0 hz
      · exact ⟨b, off, e⟩
    obtain ⟨b', off', rfl⟩ : ∃ b off, a' = some ⟨b, off, none⟩ := by
      rcases h'.cells with h0 | ⟨b, off, e, _⟩
      · exact absurd h0 hz
      · exact ⟨b, off, e⟩
    obtain ⟨hn1, hn2⟩ := hn
    obtain ⟨hn1', hn2'⟩ := hn'
    clear h h' hz
    go_enter Tryd.func25, Tryd.ntmps25
    go_wp2
    go_loopw [5] (fun i wr => ∃ k : Nat, k ≤ n ∧ i = .int .i64 k ∧ Below w.heap.size w wr) (fun i _ => n - (intOf i).toNat)
    case atStart => exact ⟨0, Nat.zero_le _, rfl, Below.refl _ _⟩
    case round =>
      obtain ⟨k, hk, rfl, hbel⟩ := hrel
      have HB : Hid (Below w.heap.size w wr) := hbel
      by_cases hlt : k < n
      · obtain ⟨c1, c2, _⟩ := (HR.out.below hbel hh).at hlt
        obtain ⟨c1', c2', _⟩ := (HR'.out.below hbel hh').at hlt
        obtain ⟨t, ht⟩ : ∃ t, t = xs.getD k (0, 0) := ⟨_, rfl⟩
        rw [← ht] at c1 c2 c1' c2'
        obtain ⟨tp, tn⟩ := t
        have hki : (k : Int) < (n : Int) := by omega
        clear ht hbel
        go_wp2
        first | go_region_with (go_at_call 24; refine (eqPart_same tp tn _).mono ?_; rintro e w' ⟨rfl, hbe⟩) | fail
        all_goals
          go_wp2
          go_roundw
          case rel => exact ⟨k + 1, by omega, by go_num, HB.out.drew.trans (hbe.mono HB.out.size)⟩
          case measure => simp [intOf]; omega
      · clear hbel
        go_wp2
        go_ret
        exact ⟨rfl, HB.out⟩

set_option maxRecDepth 100000 in
set_option maxHeartbeats 2000000 in
theorem eqK_any {k f r u xp xn yp yn : Int} {ia : Option Addr} {im ic : Nat} {a b : Int} {xs : List (Int × Int)} {ia' : Option Addr} {ic' : Nat} {w : World} {lo hi lo' hi' : Nat} (h : RP lo hi w ia im ic xs) (h' : RP lo' hi' w ia' im ic' xs) (hhi : hi ≤ w.heap.size) (hhi' : hi' ≤ w.heap.size) :
    Calls Tryd.prog 9 #[.agg #[.int .i64 k, .int .i64 f, .int .i64 r, .int .i64 u, .int .i64 xp, .int .i64 xn, .int .i64 yp, .int .i64 yn, .slice ia im ic, .int .i64 a, .int .i64 b], .agg #[.int .i64 k, .int .i64 f, .int .i64 r, .int .i64 u, .int .i64 xp, .int .i64 xn, .int .i64 yp, .int .i64 yn, .slice ia' im ic', .int .i64 a, .int .i64 b]] w fun e w' => e = .returned (.bool true) ∧ Below w.heap.size w w' := by
  obtain ⟨W0, hW0⟩ : ∃ W0, W0 = (w.alloc (.cells #[.int .i64 k, .int .i64 f, .int .i64 r, .int .i64 u, .int .i64 xp, .int .i64 xn, .int .i64 yp, .int .i64 yn, .slice ia im ic, .int .i64 a, .int .i64 b] 32)).alloc (.cells #[.int .i64 k, .int .i64 f, .int .i64 r, .int .i64 u, .int .i64 xp, .int .i64 xn, .int .i64 yp, .int .i64 yn, .slice ia' im ic', .int .i64 a, .int .i64 b] 32) := ⟨_, rfl⟩
  have HW0 : Hid (W0 = (w.alloc (.cells #[.int .i64 k, .int .i64 f, .int .i64 r, .int .i64 u, .int .i64 xp, .int .i64 xn, .int .i64 yp, .int .i64 yn, .slice ia im ic, .int .i64 a, .int .i64 b] 32)).alloc (.cells #[.int .i64 k, .int .i64 f, .int .i64 r, .int .i64 u, .int .i64 xp, .int .i64 xn, .int .i64 yp, .int .i64 yn, .slice ia' im ic', .int .i64 a, .int .i64 b] 32)) := hW0
  have hb0 : Below w.heap.size w W0 := by rw [hW0]; exact ((Below.refl _ _).alloc (Nat.le_refl _) _).alloc (by simp) _
  have HB0 : Hid (Below w.heap.size w W0) := hb0
  have hbx : BoxK 32 W0 w.heap.size k f r u xp xn yp yn (.slice ia im ic) a b := by rw [hW0]; exact (BoxK.new _ w _ _ _ _ _ _ _ _ _ _ _).below ((Below.refl _ _).alloc (Nat.le_refl _) _) (by simp)
  have hby : BoxK 32 W0 (w.heap.size + 1) k f r u xp xn yp yn (.slice ia' im ic') a b := by
    rw [hW0]
    have := BoxK.new 32 (w.alloc (.cells #[.int .i64 k, .int .i64 f, .int .i64 r, .int .i64 u, .int .i64 xp, .int .i64 xn, .int .i64 yp, .int .i64 yn, .slice ia im ic, .int .i64 a, .int .i64 b] 32)) k f r u xp xn yp yn (.slice ia' im ic') a b
    rwa [World.size_alloc] at this
  have HR : Hid (∀ W, Below W0.heap.size W0 W → RP lo hi W ia im ic xs ∧ hi ≤ W.heap.size) := fun W hW => ⟨(h.below hb0 hhi).below hW (Nat.le_trans hhi hb0.size), Nat.le_trans hhi (Nat.le_trans hb0.size hW.size)⟩
  have HR' : Hid (∀ W, Below W0.heap.size W0 W → RP lo' hi' W ia' im ic' xs ∧ hi' ≤ W.heap.size) := fun W hW => ⟨(h'.below hb0 hhi').below hW (Nat.le_trans hhi' hb0.size), Nat.le_trans hhi' (Nat.le_trans hb0.size hW.size)⟩
  have HX : Hid (∀ W, Below W0.heap.size W0 W → BoxK 32 W w.heap.size k f r u xp xn yp yn (.slice ia im ic) a b) := fun W hW => hbx.below hW hbx.lt
  have HY : Hid (∀ W, Below W0.heap.size W0 W → BoxK 32 W (w.heap.size + 1) k f r u xp xn yp yn (.slice ia' im ic') a b) := fun W hW => hby.below hW hby.lt
  have d0 : (k != k) = false := by simp
  have d1 : (f != f) = false := by simp
  have d2 : (r != r) = false := by simp
  have d3 : (u != u) = false := by simp
  have d4 : (a != a) = false := by simp
  have d5 : (b != b) = false := by simp
  obtain ⟨z0, z1, z2, z3, z4, z5, z6, z7, z8, z9, z10⟩ := hbx.cells
  obtain ⟨y0, y1, y2, y3, y4, y5, y6, y7, y8, y9, y10⟩ := hby.cells
  clear h h' hb0 hW0 hbx hby
  go_enter Tryd.func9, Tryd.ntmps9
  go_upto_region 1 with fail
  rw [← HW0.out]
  go_wp2_with fail
  refine (eqPart_same xp xn W0).mono ?_
  rintro e w1 ⟨rfl, hb1⟩
  have H1 : Hid (Below W0.heap.size W0 w1) := hb1
  clear hb1 z0 z1 z2 z3 z4 z5 z6 z7 z8 z9 z10 y0 y1 y2 y3 y4 y5 y6 y7 y8 y9 y10
  obtain ⟨z0, z1, z2, z3, z4, z5, z6, z7, z8, z9, z10⟩ := (HX.out _ H1.out).cells
  obtain ⟨y0, y1, y2, y3, y4, y5, y6, y7, y8, y9, y10⟩ := (HY.out _ H1.out).cells
  go_wp2_with fail
  refine (eqPart_same yp yn w1).mono ?_
  rintro e w2 ⟨rfl, hb2⟩
  have H2 : Hid (Below W0.heap.size W0 w2) := H1.out.trans (hb2.mono H1.out.size)
  clear hb2 z0 z1 z2 z3 z4 z5 z6 z7 z8 z9 z10 y0 y1 y2 y3 y4 y5 y6 y7 y8 y9 y10
  obtain ⟨z0, z1, z2, z3, z4, z5, z6, z7, z8, z9, z10⟩ := (HX.out _ H2.out).cells
  obtain ⟨y0, y1, y2, y3, y4, y5, y6, y7, y8, y9, y10⟩ := (HY.out _ H2.out).cells
  go_wp2_with fail
  refine (eqPartS_same (HR.out _ H2.out).1 (HR'.out _ H2.out).1 (HR.out _ H2.out).2 (HR'.out _ H2.out).2).mono ?_
  rintro e w3 ⟨rfl, hb3⟩
  have H3 : Hid (Below W0.heap.size W0 w3) := H2.out.trans (hb3.mono H2.out.size)
  clear hb3 z0 z1 z2 z3 z4 z5 z6 z7 z8 z9 z10 y0 y1 y2 y3 y4 y5 y6 y7 y8 y9 y10
  obtain ⟨z0, z1, z2, z3, z4, z5, z6, z7, z8, z9, z10⟩ := (HX.out _ H3.out).cells
  obtain ⟨y0, y1, y2, y3, y4, y5, y6, y7, y8, y9, y10⟩ := (HY.out _ H3.out).cells
  go_wp2_with fail
  go_ret
  exact ⟨rfl, HB0.out.trans (H3.out.mono HB0.out.size)⟩

/-! ### The copy -/

theorem Tryd.infoPart : (Tryd.prog.info? 29).map (fun i => (i.zero, i.size, i.bytes)) = some (some (.agg #[.int .i64 0, .int .i64 0]), 2, 16) := by kernel_rfl

/-- The cell j of a row of parts of which the first k are laid. -/
def cellP (xs : List (Int × Int)) (k j : Nat) : Value :=
  if j / 2 < k then (if j % 2 = 0 then .int .i64 (xs.getD (j / 2) (0, 0)).1 else .int .i64 (xs.getD (j / 2) (0, 0)).2) else .int .i64 0

theorem cellP_new (xs : List (Int × Int)) {k i : Nat} (h : i < k) : cellP xs k (i * 2) = .int .i64 (xs.getD i (0, 0)).1 ∧ cellP xs k (i * 2 + 1) = .int .i64 (xs.getD i (0, 0)).2 := by
  have e0 : i * 2 / 2 = i := by omega
  have e1 : (i * 2 + 1) / 2 = i := by omega
  have m1 : (i * 2 + 1) % 2 = 1 := by omega
  refine ⟨?_, ?_⟩
  · simp [cellP, e0, h]
  · simp [cellP, e1, m1, h]

theorem cellP_old (xs : List (Int × Int)) {k i : Nat} (h : k ≤ i) : cellP xs k (i * 2) = .int .i64 0 ∧ cellP xs k (i * 2 + 1) = .int .i64 0 := by
  have e0 : i * 2 / 2 = i := by omega
  have e1 : (i * 2 + 1) / 2 = i := by omega
  have hn : ¬ i < k := by omega
  refine ⟨?_, ?_⟩
  · simp [cellP, e0, hn]
  · simp [cellP, e1, hn]

theorem rowP_made (w : World) (xs : List (Int × Int)) (n : Nat) : (w.alloc (.cells (madeCells #[.int .i64 0, .int .i64 0] (n * 2)) 29)).rowIs w.heap.size 29 (n * 2) (cellP xs 0) := by
  have key := World.rowIs_alloc w (madeCells #[.int .i64 0, .int .i64 0] (n * 2)) 29 (cellP xs 0) (fun i hi => ?_)
  · rw [size_madeCells] at key; exact key
  rw [size_madeCells] at hi
  have : i % 2 = 0 ∨ i % 2 = 1 := by omega
  rcases this with h | h <;> simp [madeCells, hi, cellP, h]

theorem rowP_step {w : World} {g n k : Nat} {xs : List (Int × Int)} {p q : Int} (hp : p = (xs.getD k (0, 0)).1) (hq : q = (xs.getD k (0, 0)).2) (h : w.rowIs g 29 (n * 2) (cellP xs k)) :
    ((w.setCell ⟨g, k * 2, none⟩ (.int .i64 p)).setCell ⟨g, k * 2 + 1, none⟩ (.int .i64 q)).rowIs g 29 (n * 2) (cellP xs (k + 1)) := by
  subst hp hq
  refine ((h.set (k * 2) _).set (k * 2 + 1) _).congr fun j hj => ?_
  have hd : ∃ i, j = i * 2 ∨ j = i * 2 + 1 := ⟨j / 2, by omega⟩
  obtain ⟨i, hd⟩ := hd
  by_cases hik : i = k
  · subst hik
    obtain ⟨c0, c1⟩ := cellP_new xs (Nat.lt_succ_self i)
    rcases hd with rfl | rfl
    · rw [c0]; simp
    · rw [c1]; simp
  · have n0 : j ≠ k * 2 := by omega
    have n1 : j ≠ k * 2 + 1 := by omega
    simp only [if_neg n0, if_neg n1]
    by_cases hlt : i < k
    · obtain ⟨c0, c1⟩ := cellP_new xs (show i < k + 1 by omega)
      obtain ⟨d0, d1⟩ := cellP_new xs hlt
      rcases hd with rfl | rfl
      · rw [c0, d0]
      · rw [c1, d1]
    · obtain ⟨c0, c1⟩ := cellP_old xs (show k + 1 ≤ i by omega)
      obtain ⟨d0, d1⟩ := cellP_old xs (show k ≤ i by omega)
      rcases hd with rfl | rfl
      · rw [c0, d0]
      · rw [c1, d1]

theorem rowP_rd {lo hi : Nat} {w : World} {g n : Nat} {xs : List (Int × Int)} (h : w.rowIs g 29 (n * 2) (cellP xs n)) (hl : xs.length = n) (hn : n ≤ 1048576) (h1 : lo ≤ g) (h2 : g < hi) : RP lo hi w (some ⟨g, 0, none⟩) n n xs := by
  refine ⟨hl, ⟨Nat.le_refl _, by omega⟩, .inr ⟨g, 0, rfl, h1, h2, fun i hi => ?_⟩⟩
  obtain ⟨c0, c1⟩ := cellP_new xs hi
  simp only [Nat.zero_add]
  rw [h.cell (show i * 2 < n * 2 by omega), h.cell (show i * 2 + 1 < n * 2 by omega), c0, c1]
  exact ⟨rfl, rfl⟩

set_option maxHeartbeats 800000 in
theorem toPartS_any {a : Option Addr} {n cap : Nat} {xs : List (Int × Int)} {w : World} {lo hi : Nat} (h : RP lo hi w a n cap xs) (hhi : hi ≤ w.heap.size) (hn1 : n ≤ 1048576) :
    Calls Tryd.prog 20 #[.slice a n cap] w fun e w' => e = .returned (.slice (some ⟨w.heap.size, 0, none⟩) n n) ∧ w'.rowIs w.heap.size 29 (n * 2) (cellP xs n) ∧ Below w.heap.size w w' := by
  have H : Hid (RP lo hi w a n cap xs) := h
  obtain ⟨hl, ⟨hm, hM⟩, hcs⟩ := h
  clear hcs
  have hmk : ∀ w : World, (Instr.makeSlice 30 (.int .i64 (n : Int)) (.int .i64 (n : Int))).run Tryd.prog w = .ok (.slice (some ⟨w.heap.size, 0, none⟩) n n) (w.alloc (.cells (madeCells #[.int .i64 0, .int .i64 0] (n * 2)) 29)) := by
    intro w
    obtain ⟨i0, hi0, hz0, hz1, hz2⟩ := info_parts Tryd.infoPart
    have hr := run_make (P := Tryd.prog) w 30 29 i0 _ Tryd.underlying30 hi0 hz0 .i64 .i64 n n (by omega) (Int.le_refl _) (by rw [hz2]; omega) (by omega)
    simp only [Int.toNat_natCast, hz1] at hr
    exact hr
  have HL : Hid (xs.length = n) := hl
  have h0 : Hid ((w.alloc (.cells (madeCells #[.int .i64 0, .int .i64 0] (n * 2)) 29)).rowIs w.heap.size 29 (n * 2) (cellP xs 0)) := rowP_made w xs n
  clear hl
  go_enter Tryd.func20, Tryd.ntmps20
  go_wp2
  go_loopw [4] (fun i wr => ∃ k : Nat, k ≤ n ∧ i = .int .i64 k ∧ wr.rowIs w.heap.size 29 (n * 2) (cellP xs k) ∧ Below w.heap.size w wr) (fun i _ => n - (intOf i).toNat)
  case atStart => exact ⟨0, Nat.zero_le _, rfl, h0.out, (Below.refl _ _).alloc (Nat.le_refl _) _⟩
  case round =>
    obtain ⟨k, hk, rfl, hrow, hbel⟩ := hrel
    have HB : Hid (Below w.heap.size w wr) := hbel
    have HRow : Hid (wr.rowIs w.heap.size 29 (n * 2) (cellP xs k)) := hrow
    by_cases hlt : k < n
    · have hR := H.out.below hbel hhi
      rcases hR.cells with h0 | ⟨b, off, e1, _, hbh, hc⟩
      · omega
      · subst e1
        obtain ⟨c1, c2⟩ := hc k hlt
        obtain ⟨t, ht⟩ : ∃ t, t = xs.getD k (0, 0) := ⟨_, rfl⟩
        have HT : Hid (t = xs.getD k (0, 0)) := ht
        rw [← ht] at c1 c2
        obtain ⟨tp, tn⟩ := t
        have hki : (k : Int) < (n : Int) := by omega
        have hlw := hrow.lt
        clear hR hc ht hbel hrow
        go_wp2_with fail
        refine (toPart_any tp tn _).mono ?_
        rintro e w1 ⟨rfl, hb1⟩
        have hrow1 : w1.rowIs w.heap.size 29 (n * 2) (cellP xs k) := HRow.out.of_block (hb1.block _ hlw)
        obtain ⟨o0, o1⟩ := cellP_old xs (Nat.le_refl k)
        have d0 : w1.cell? ⟨w.heap.size, k * 2, none⟩ = some (.int .i64 0) := by rw [hrow1.cell (show k * 2 < n * 2 by omega), o0]
        have d1 : w1.cell? ⟨w.heap.size, k * 2 + 1, none⟩ = some (.int .i64 0) := by rw [hrow1.cell (show k * 2 + 1 < n * 2 by omega), o1]
        have f0 := hrow1.frozen (k * 2)
        have f1 := hrow1.frozen (k * 2 + 1)
        have HRow1 : Hid (((w1.setCell ⟨w.heap.size, k * 2, none⟩ (.int .i64 tp)).setCell ⟨w.heap.size, k * 2 + 1, none⟩ (.int .i64 tn)).rowIs w.heap.size 29 (n * 2) (cellP xs (k + 1))) := rowP_step (by rw [← HT.out]) (by rw [← HT.out]) hrow1
        have HB1 : Hid (Below w.heap.size w ((w1.setCell ⟨w.heap.size, k * 2, none⟩ (.int .i64 tp)).setCell ⟨w.heap.size, k * 2 + 1, none⟩ (.int .i64 tn))) := ((HB.out.trans (hb1.mono HB.out.size)).setCell (Nat.le_refl _) _).setCell (Nat.le_refl _) _
        clear hrow1 hb1
        go_wp2
        go_roundw
        case rel => exact ⟨k + 1, by omega, by go_num, HRow1.out, HB1.out⟩
        case measure => simp [intOf]; omega
    · have hkn : k = n := by omega
      have HE : Hid (wr.rowIs w.heap.size 29 (n * 2) (cellP xs n)) := by subst hkn; exact hrow
      clear hkn hrow hbel
      go_wp2
      go_ret
      exact ⟨rfl, HE.out, HB.out⟩

/-! ### A clause, whole -/

def set11 (W : World) (q : Nat) (v0 v1 v2 v3 v4 v5 v6 v7 v8 v9 v10 : Value) : World := (((((((((((W.setCell ⟨q, 0, none⟩ v0).setCell ⟨q, 1, none⟩ v1).setCell ⟨q, 2, none⟩ v2).setCell ⟨q, 3, none⟩ v3).setCell ⟨q, 4, none⟩ v4).setCell ⟨q, 5, none⟩ v5).setCell ⟨q, 6, none⟩ v6).setCell ⟨q, 7, none⟩ v7).setCell ⟨q, 8, none⟩ v8).setCell ⟨q, 9, none⟩ v9).setCell ⟨q, 10, none⟩ v10)

theorem heap_set11 (W : World) {b q : Nat} (v0 v1 v2 v3 v4 v5 v6 v7 v8 v9 v10 : Value) (hb : b ≠ q) : (set11 W q v0 v1 v2 v3 v4 v5 v6 v7 v8 v9 v10).heap[b]? = W.heap[b]? := by
  unfold set11
  rw [Below.heap_setCell _ ⟨q, 10, none⟩ _ b hb, Below.heap_setCell _ ⟨q, 9, none⟩ _ b hb, Below.heap_setCell _ ⟨q, 8, none⟩ _ b hb, Below.heap_setCell _ ⟨q, 7, none⟩ _ b hb, Below.heap_setCell _ ⟨q, 6, none⟩ _ b hb, Below.heap_setCell _ ⟨q, 5, none⟩ _ b hb, Below.heap_setCell _ ⟨q, 4, none⟩ _ b hb, Below.heap_setCell _ ⟨q, 3, none⟩ _ b hb, Below.heap_setCell _ ⟨q, 2, none⟩ _ b hb, Below.heap_setCell _ ⟨q, 1, none⟩ _ b hb, Below.heap_setCell _ ⟨q, 0, none⟩ _ b hb]

theorem below_set11 {B : Nat} {w W : World} (h : Below B w W) {q : Nat} (hp : B ≤ q) (v0 v1 v2 v3 v4 v5 v6 v7 v8 v9 v10 : Value) : Below B w (set11 W q v0 v1 v2 v3 v4 v5 v6 v7 v8 v9 v10) :=
  ((((((((((h.setCell hp _).setCell hp _).setCell hp _).setCell hp _).setCell hp _).setCell hp _).setCell hp _).setCell hp _).setCell hp _).setCell hp _).setCell hp _

theorem BoxK.set11 {t : Nat} {W : World} {q : Nat} {k f r u xp xn yp yn : Int} {s : Value} {a b : Int} (h : BoxK t W q k f r u xp xn yp yn s a b) (k' f' r' u' xp' xn' yp' yn' : Int) (s' : Value) (a' b' : Int) :
    BoxK t (set11 W q (.int .i64 k') (.int .i64 f') (.int .i64 r') (.int .i64 u') (.int .i64 xp') (.int .i64 xn') (.int .i64 yp') (.int .i64 yn') s' (.int .i64 a') (.int .i64 b')) q k' f' r' u' xp' xn' yp' yn' s' a' b' := by
  have e0 : BoxK t (W.setCell ⟨q, 0, none⟩ (.int .i64 k')) q k' f r u xp xn yp yn s a b := h.at 0 _
  have e1 : BoxK t ((W.setCell ⟨q, 0, none⟩ (.int .i64 k')).setCell ⟨q, 1, none⟩ (.int .i64 f')) q k' f' r u xp xn yp yn s a b := e0.at 1 _
  have e2 : BoxK t (((W.setCell ⟨q, 0, none⟩ (.int .i64 k')).setCell ⟨q, 1, none⟩ (.int .i64 f')).setCell ⟨q, 2, none⟩ (.int .i64 r')) q k' f' r' u xp xn yp yn s a b := e1.at 2 _
  have e3 : BoxK t ((((W.setCell ⟨q, 0, none⟩ (.int .i64 k')).setCell ⟨q, 1, none⟩ (.int .i64 f')).setCell ⟨q, 2, none⟩ (.int .i64 r')).setCell ⟨q, 3, none⟩ (.int .i64 u')) q k' f' r' u' xp xn yp yn s a b := e2.at 3 _
  have e4 : BoxK t (((((W.setCell ⟨q, 0, none⟩ (.int .i64 k')).setCell ⟨q, 1, none⟩ (.int .i64 f')).setCell ⟨q, 2, none⟩ (.int .i64 r')).setCell ⟨q, 3, none⟩ (.int .i64 u')).setCell ⟨q, 4, none⟩ (.int .i64 xp')) q k' f' r' u' xp' xn yp yn s a b := e3.at 4 _
  have e5 : BoxK t ((((((W.setCell ⟨q, 0, none⟩ (.int .i64 k')).setCell ⟨q, 1, none⟩ (.int .i64 f')).setCell ⟨q, 2, none⟩ (.int .i64 r')).setCell ⟨q, 3, none⟩ (.int .i64 u')).setCell ⟨q, 4, none⟩ (.int .i64 xp')).setCell ⟨q, 5, none⟩ (.int .i64 xn')) q k' f' r' u' xp' xn' yp yn s a b := e4.at 5 _
  have e6 : BoxK t (((((((W.setCell ⟨q, 0, none⟩ (.int .i64 k')).setCell ⟨q, 1, none⟩ (.int .i64 f')).setCell ⟨q, 2, none⟩ (.int .i64 r')).setCell ⟨q, 3, none⟩ (.int .i64 u')).setCell ⟨q, 4, none⟩ (.int .i64 xp')).setCell ⟨q, 5, none⟩ (.int .i64 xn')).setCell ⟨q, 6, none⟩ (.int .i64 yp')) q k' f' r' u' xp' xn' yp' yn s a b := e5.at 6 _
  have e7 : BoxK t ((((((((W.setCell ⟨q, 0, none⟩ (.int .i64 k')).setCell ⟨q, 1, none⟩ (.int .i64 f')).setCell ⟨q, 2, none⟩ (.int .i64 r')).setCell ⟨q, 3, none⟩ (.int .i64 u')).setCell ⟨q, 4, none⟩ (.int .i64 xp')).setCell ⟨q, 5, none⟩ (.int .i64 xn')).setCell ⟨q, 6, none⟩ (.int .i64 yp')).setCell ⟨q, 7, none⟩ (.int .i64 yn')) q k' f' r' u' xp' xn' yp' yn' s a b := e6.at 7 _
  have e8 : BoxK t (((((((((W.setCell ⟨q, 0, none⟩ (.int .i64 k')).setCell ⟨q, 1, none⟩ (.int .i64 f')).setCell ⟨q, 2, none⟩ (.int .i64 r')).setCell ⟨q, 3, none⟩ (.int .i64 u')).setCell ⟨q, 4, none⟩ (.int .i64 xp')).setCell ⟨q, 5, none⟩ (.int .i64 xn')).setCell ⟨q, 6, none⟩ (.int .i64 yp')).setCell ⟨q, 7, none⟩ (.int .i64 yn')).setCell ⟨q, 8, none⟩ s') q k' f' r' u' xp' xn' yp' yn' s' a b := e7.at 8 _
  have e9 : BoxK t ((((((((((W.setCell ⟨q, 0, none⟩ (.int .i64 k')).setCell ⟨q, 1, none⟩ (.int .i64 f')).setCell ⟨q, 2, none⟩ (.int .i64 r')).setCell ⟨q, 3, none⟩ (.int .i64 u')).setCell ⟨q, 4, none⟩ (.int .i64 xp')).setCell ⟨q, 5, none⟩ (.int .i64 xn')).setCell ⟨q, 6, none⟩ (.int .i64 yp')).setCell ⟨q, 7, none⟩ (.int .i64 yn')).setCell ⟨q, 8, none⟩ s').setCell ⟨q, 9, none⟩ (.int .i64 a')) q k' f' r' u' xp' xn' yp' yn' s' a' b := e8.at 9 _
  have e10 : BoxK t (((((((((((W.setCell ⟨q, 0, none⟩ (.int .i64 k')).setCell ⟨q, 1, none⟩ (.int .i64 f')).setCell ⟨q, 2, none⟩ (.int .i64 r')).setCell ⟨q, 3, none⟩ (.int .i64 u')).setCell ⟨q, 4, none⟩ (.int .i64 xp')).setCell ⟨q, 5, none⟩ (.int .i64 xn')).setCell ⟨q, 6, none⟩ (.int .i64 yp')).setCell ⟨q, 7, none⟩ (.int .i64 yn')).setCell ⟨q, 8, none⟩ s').setCell ⟨q, 9, none⟩ (.int .i64 a')).setCell ⟨q, 10, none⟩ (.int .i64 b')) q k' f' r' u' xp' xn' yp' yn' s' a' b' := e9.at 10 _
  exact e10

set_option maxRecDepth 100000 in
set_option maxHeartbeats 4000000 in
theorem toK_any {k f r u xp xn yp yn : Int} {ia : Option Addr} {im ic : Nat} {a b : Int} {xs : List (Int × Int)} {w : World} {lo hi : Nat} (h : RP lo hi w ia im ic xs) (hhi : hi ≤ w.heap.size) (him : im ≤ 1048576) :
    Calls Tryd.prog 7 #[.agg #[.int .i64 k, .int .i64 f, .int .i64 r, .int .i64 u, .int .i64 xp, .int .i64 xn, .int .i64 yp, .int .i64 yn, .slice ia im ic, .int .i64 a, .int .i64 b]] w fun e w' => ∃ g, e = .returned (.agg #[.int .i64 k, .int .i64 f, .int .i64 r, .int .i64 u, .int .i64 xp, .int .i64 xn, .int .i64 yp, .int .i64 yn, .slice (some ⟨g, 0, none⟩) im im, .int .i64 a, .int .i64 b]) ∧
      RP w.heap.size w'.heap.size w' (some ⟨g, 0, none⟩) im im xs ∧ w'.rowIs g 29 (im * 2) (cellP xs im) ∧ Below w.heap.size w w' := by
  obtain ⟨W1, hW1⟩ : ∃ W1, W1 = ((w.alloc (.cells #[.int .i64 k, .int .i64 f, .int .i64 r, .int .i64 u, .int .i64 xp, .int .i64 xn, .int .i64 yp, .int .i64 yn, .slice ia im ic, .int .i64 a, .int .i64 b] 26)).alloc (.cells #[.int .i64 0, .int .i64 0, .int .i64 0, .int .i64 0, .int .i64 0, .int .i64 0, .int .i64 0, .int .i64 0, .slice none 0 0, .int .i64 0, .int .i64 0] 32)).alloc (.cells #[.int .i64 k, .int .i64 f, .int .i64 r, .int .i64 u, .int .i64 0, .int .i64 0, .int .i64 0, .int .i64 0, .slice none 0 0, .int .i64 0, .int .i64 0] 32) := ⟨_, rfl⟩
  have HW1 : Hid (W1 = ((w.alloc (.cells #[.int .i64 k, .int .i64 f, .int .i64 r, .int .i64 u, .int .i64 xp, .int .i64 xn, .int .i64 yp, .int .i64 yn, .slice ia im ic, .int .i64 a, .int .i64 b] 26)).alloc (.cells #[.int .i64 0, .int .i64 0, .int .i64 0, .int .i64 0, .int .i64 0, .int .i64 0, .int .i64 0, .int .i64 0, .slice none 0 0, .int .i64 0, .int .i64 0] 32)).alloc (.cells #[.int .i64 k, .int .i64 f, .int .i64 r, .int .i64 u, .int .i64 0, .int .i64 0, .int .i64 0, .int .i64 0, .slice none 0 0, .int .i64 0, .int .i64 0] 32)) := hW1
  have hs1 : W1.heap.size = w.heap.size + 3 := by rw [hW1]; simp
  have hb0 : Below w.heap.size w W1 := by rw [hW1]; exact (((Below.refl _ _).alloc (Nat.le_refl _) _).alloc (by simp) _).alloc (by simp; omega) _
  have HB0 : Hid (Below w.heap.size w W1) := hb0
  have hlx : BoxK 26 W1 w.heap.size k f r u xp xn yp yn (.slice ia im ic) a b := by rw [hW1]; exact ((BoxK.new _ w _ _ _ _ _ _ _ _ _ _ _).below ((Below.refl _ _).alloc (Nat.le_refl _) _) (by simp)).below ((Below.refl _ _).alloc (Nat.le_refl _) _) (by simp; omega)
  have hrx : BoxK 32 W1 (w.heap.size + 1) 0 0 0 0 0 0 0 0 (.slice none 0 0) 0 0 := by
    have e := BoxK.new 32 (w.alloc (.cells #[.int .i64 k, .int .i64 f, .int .i64 r, .int .i64 u, .int .i64 xp, .int .i64 xn, .int .i64 yp, .int .i64 yn, .slice ia im ic, .int .i64 a, .int .i64 b] 26)) 0 0 0 0 0 0 0 0 (.slice none 0 0) 0 0
    rw [World.size_alloc] at e
    rw [hW1]; exact e.below ((Below.refl _ _).alloc (Nat.le_refl _) _) (by simp)
  have hox : BoxK 32 W1 (w.heap.size + 1 + 1) k f r u 0 0 0 0 (.slice none 0 0) 0 0 := by
    have e := BoxK.new 32 ((w.alloc (.cells #[.int .i64 k, .int .i64 f, .int .i64 r, .int .i64 u, .int .i64 xp, .int .i64 xn, .int .i64 yp, .int .i64 yn, .slice ia im ic, .int .i64 a, .int .i64 b] 26)).alloc (.cells #[.int .i64 0, .int .i64 0, .int .i64 0, .int .i64 0, .int .i64 0, .int .i64 0, .int .i64 0, .int .i64 0, .slice none 0 0, .int .i64 0, .int .i64 0] 32)) k f r u 0 0 0 0 (.slice none 0 0) 0 0
    rw [World.size_alloc, World.size_alloc] at e
    rw [hW1]; exact e
  have HLx : Hid (∀ W, Below (w.heap.size + 2) W1 W → BoxK 26 W w.heap.size k f r u xp xn yp yn (.slice ia im ic) a b) := fun W hW => hlx.below hW (by omega)
  have HRx : Hid (∀ W, Below (w.heap.size + 2) W1 W → BoxK 32 W (w.heap.size + 1) 0 0 0 0 0 0 0 0 (.slice none 0 0) 0 0) := fun W hW => hrx.below hW (by omega)
  have HOx : Hid (BoxK 32 W1 (w.heap.size + 1 + 1) k f r u 0 0 0 0 (.slice none 0 0) 0 0) := hox
  have HRP : Hid (∀ W, Below (w.heap.size + 2) W1 W → RP lo hi W ia im ic xs ∧ hi ≤ W.heap.size) := fun W hW => ⟨(h.below hb0 hhi).below hW (by omega), Nat.le_trans hhi (Nat.le_trans hb0.size hW.size)⟩
  have HS1 : Hid (W1.heap.size = w.heap.size + 3) := hs1
  have HLen : Hid (xs.length = im) := h.len
  obtain ⟨z0, z1, z2, z3, z4, z5, z6, z7, z8, z9, z10⟩ := hlx.cells
  obtain ⟨o0, o1, o2, o3, o4, o5, o6, o7, o8, o9, o10⟩ := hox.cells
  clear hW1 hb0 hlx hrx hox h hs1
  go_enter Tryd.func7, Tryd.ntmps7
  go_upto_region 6 with fail
  rw [← HW1.out]
  go_wp2_with fail
  refine (toPart_any xp xn W1).mono ?_
  rintro e w2 ⟨rfl, hb2⟩
  have H2 : Hid (Below (w.heap.size + 2) W1 w2) := hb2.mono (by have := HS1.out; omega)
  have hox2 := HOx.out.below hb2 (by have := HS1.out; omega)
  clear o0 o1 o2 o3 o4 o5 o6 o7 o8 o9 o10 z0 z1 z2 z3 z4 z5 z6 z7 z8 z9 z10
  obtain ⟨o0, o1, o2, o3, o4, o5, o6, o7, o8, o9, o10⟩ := hox2.cells
  have g4 := hox2.frz 4
  have g5 := hox2.frz 5
  obtain ⟨U2, hU2⟩ : ∃ U, U = (w2.setCell ⟨w.heap.size + 1 + 1, 4, none⟩ (.int .i64 xp)).setCell ⟨w.heap.size + 1 + 1, 5, none⟩ (.int .i64 xn) := ⟨_, rfl⟩
  have HU2 : Hid (U2 = (w2.setCell ⟨w.heap.size + 1 + 1, 4, none⟩ (.int .i64 xp)).setCell ⟨w.heap.size + 1 + 1, 5, none⟩ (.int .i64 xn)) := hU2
  have HOx2 : Hid (BoxK 32 U2 (w.heap.size + 1 + 1) k f r u xp xn 0 0 (.slice none 0 0) 0 0) := by
    unfold Hid
    rw [hU2]
    have e : BoxK 32 (w2.setCell ⟨w.heap.size + 1 + 1, 4, none⟩ (.int .i64 xp)) (w.heap.size + 1 + 1) k f r u xp 0 0 0 (.slice none 0 0) 0 0 := hox2.at 4 _
    exact e.at 5 _
  have HBU2 : Hid (Below (w.heap.size + 2) W1 U2) := by unfold Hid; rw [hU2]; exact (H2.out.setCell (by show w.heap.size + 2 ≤ w.heap.size + 1 + 1; omega) _).setCell (by show w.heap.size + 2 ≤ w.heap.size + 1 + 1; omega) _
  obtain ⟨z0, z1, z2, z3, z4, z5, z6, z7, z8, z9, z10⟩ := (HLx.out _ H2.out).cells
  clear hb2 hox2 hU2
  go_upto_region 7 with fail
  rw [← HU2.out]
  clear o0 o1 o2 o3 o4 o5 o6 o7 o8 o9 o10 z0 z1 z2 z3 z4 z5 z6 z7 z8 z9 z10
  obtain ⟨z0, z1, z2, z3, z4, z5, z6, z7, z8, z9, z10⟩ := (HLx.out _ HBU2.out).cells
  go_wp2_with fail
  refine (toPart_any yp yn U2).mono ?_
  rintro e w3 ⟨rfl, hb3⟩
  have hsz : w.heap.size + 3 ≤ U2.heap.size := by have := HBU2.out.size; have := HS1.out; omega
  have H3 : Hid (Below (w.heap.size + 2) W1 w3) := HBU2.out.trans (hb3.mono (by omega))
  have hox3 := HOx2.out.below hb3 (by omega)
  clear z0 z1 z2 z3 z4 z5 z6 z7 z8 z9 z10
  obtain ⟨o0, o1, o2, o3, o4, o5, o6, o7, o8, o9, o10⟩ := hox3.cells
  have g6 := hox3.frz 6
  have g7 := hox3.frz 7
  obtain ⟨U3, hU3⟩ : ∃ U, U = (w3.setCell ⟨w.heap.size + 1 + 1, 6, none⟩ (.int .i64 yp)).setCell ⟨w.heap.size + 1 + 1, 7, none⟩ (.int .i64 yn) := ⟨_, rfl⟩
  have HU3 : Hid (U3 = (w3.setCell ⟨w.heap.size + 1 + 1, 6, none⟩ (.int .i64 yp)).setCell ⟨w.heap.size + 1 + 1, 7, none⟩ (.int .i64 yn)) := hU3
  have HOx3 : Hid (BoxK 32 U3 (w.heap.size + 1 + 1) k f r u xp xn yp yn (.slice none 0 0) 0 0) := by
    unfold Hid
    rw [hU3]
    have e : BoxK 32 (w3.setCell ⟨w.heap.size + 1 + 1, 6, none⟩ (.int .i64 yp)) (w.heap.size + 1 + 1) k f r u xp xn yp 0 (.slice none 0 0) 0 0 := hox3.at 6 _
    exact e.at 7 _
  have HBU3 : Hid (Below (w.heap.size + 2) W1 U3) := by unfold Hid; rw [hU3]; exact (H3.out.setCell (by show w.heap.size + 2 ≤ w.heap.size + 1 + 1; omega) _).setCell (by show w.heap.size + 2 ≤ w.heap.size + 1 + 1; omega) _
  have hsU3 : U3.heap.size = w3.heap.size := by rw [hU3]; simp
  have hsz3 : w.heap.size + 3 ≤ U3.heap.size := by have := hb3.size; omega
  obtain ⟨z0, z1, z2, z3, z4, z5, z6, z7, z8, z9, z10⟩ := (HLx.out _ H3.out).cells
  clear hb3 hox3 hU3 hsU3
  go_upto_region 8 with fail
  rw [← HU3.out]
  clear o0 o1 o2 o3 o4 o5 o6 o7 o8 o9 o10 z0 z1 z2 z3 z4 z5 z6 z7 z8 z9 z10
  obtain ⟨z0, z1, z2, z3, z4, z5, z6, z7, z8, z9, z10⟩ := (HLx.out _ HBU3.out).cells
  go_wp2_with fail
  refine (toPartS_any (HRP.out _ HBU3.out).1 (HRP.out _ HBU3.out).2 him).mono ?_
  rintro e w4 ⟨rfl, hrow, hb4⟩
  obtain ⟨g, hg⟩ : ∃ g, g = U3.heap.size := ⟨_, rfl⟩
  rw [← hg] at hrow
  rw [← hg]
  have hgs : w.heap.size + 3 ≤ g := by omega
  have hglt := hrow.lt
  have H4 : Hid (Below (w.heap.size + 2) W1 w4) := HBU3.out.trans (hb4.mono (by omega))
  have hox4 := HOx3.out.below hb4 (by omega)
  clear z0 z1 z2 z3 z4 z5 z6 z7 z8 z9 z10
  obtain ⟨o0, o1, o2, o3, o4, o5, o6, o7, o8, o9, o10⟩ := hox4.cells
  have g8 := hox4.frz 8
  have g9 := hox4.frz 9
  have g10 := hox4.frz 10
  obtain ⟨z0, z1, z2, z3, z4, z5, z6, z7, z8, z9, z10⟩ := (HLx.out _ H4.out).cells
  have HRow : Hid (w4.rowIs g 29 (im * 2) (cellP xs im)) := hrow
  clear hrow hb4 hg
  obtain ⟨U4, hU4⟩ : ∃ U, U = ((w4.setCell ⟨w.heap.size + 1 + 1, 8, none⟩ (.slice (some ⟨g, 0, none⟩) im im)).setCell ⟨w.heap.size + 1 + 1, 9, none⟩ (.int .i64 a)).setCell ⟨w.heap.size + 1 + 1, 10, none⟩ (.int .i64 b) := ⟨_, rfl⟩
  have HU4 : Hid (U4 = ((w4.setCell ⟨w.heap.size + 1 + 1, 8, none⟩ (.slice (some ⟨g, 0, none⟩) im im)).setCell ⟨w.heap.size + 1 + 1, 9, none⟩ (.int .i64 a)).setCell ⟨w.heap.size + 1 + 1, 10, none⟩ (.int .i64 b)) := hU4
  have HOx4 : Hid (BoxK 32 U4 (w.heap.size + 1 + 1) k f r u xp xn yp yn (.slice (some ⟨g, 0, none⟩) im im) a b) := by
    unfold Hid
    rw [hU4]
    have e : BoxK 32 (w4.setCell ⟨w.heap.size + 1 + 1, 8, none⟩ (.slice (some ⟨g, 0, none⟩) im im)) (w.heap.size + 1 + 1) k f r u xp xn yp yn (.slice (some ⟨g, 0, none⟩) im im) 0 0 := hox4.at 8 _
    have e' : BoxK 32 ((w4.setCell ⟨w.heap.size + 1 + 1, 8, none⟩ (.slice (some ⟨g, 0, none⟩) im im)).setCell ⟨w.heap.size + 1 + 1, 9, none⟩ (.int .i64 a)) (w.heap.size + 1 + 1) k f r u xp xn yp yn (.slice (some ⟨g, 0, none⟩) im im) a 0 := e.at 9 _
    exact e'.at 10 _
  have HBU4 : Hid (Below (w.heap.size + 2) W1 U4) := by unfold Hid; rw [hU4]; exact ((H4.out.setCell (by show w.heap.size + 2 ≤ w.heap.size + 1 + 1; omega) _).setCell (by show w.heap.size + 2 ≤ w.heap.size + 1 + 1; omega) _).setCell (by show w.heap.size + 2 ≤ w.heap.size + 1 + 1; omega) _
  have HRow4 : Hid (U4.rowIs g 29 (im * 2) (cellP xs im)) := by
    unfold Hid
    rw [hU4]
    refine HRow.out.of_block ?_
    rw [Below.heap_setCell _ ⟨w.heap.size + 1 + 1, 10, none⟩ _ g (by show g ≠ w.heap.size + 1 + 1; omega), Below.heap_setCell _ ⟨w.heap.size + 1 + 1, 9, none⟩ _ g (by show g ≠ w.heap.size + 1 + 1; omega), Below.heap_setCell _ ⟨w.heap.size + 1 + 1, 8, none⟩ _ g (by show g ≠ w.heap.size + 1 + 1; omega)]
  clear hU4 hox4
  go_upto_region 11 with fail
  rw [← HU4.out]
  clear z0 z1 z2 z3 z4 z5 z6 z7 z8 z9 z10 o0 o1 o2 o3 o4 o5 o6 o7 o8 o9 o10 g8 g9 g10
  obtain ⟨o0, o1, o2, o3, o4, o5, o6, o7, o8, o9, o10⟩ := HOx4.out.cells
  have hrx4 := HRx.out _ HBU4.out
  obtain ⟨t0, t1, t2, t3, t4, t5, t6, t7, t8, t9, t10⟩ := hrx4.cells
  have tf0 := hrx4.frz 0
  have tf1 := hrx4.frz 1
  have tf2 := hrx4.frz 2
  have tf3 := hrx4.frz 3
  have tf4 := hrx4.frz 4
  have tf5 := hrx4.frz 5
  have tf6 := hrx4.frz 6
  have tf7 := hrx4.frz 7
  have tf8 := hrx4.frz 8
  have tf9 := hrx4.frz 9
  have tf10 := hrx4.frz 10
  obtain ⟨s0, s1, s2, s3, s4, s5, s6, s7, s8, s9, s10⟩ := (hrx4.set11 k f r u xp xn yp yn (.slice (some ⟨g, 0, none⟩) im im) a b).cells
  have HPost : Hid (RP w.heap.size (set11 U4 (w.heap.size + 1) (.int .i64 k) (.int .i64 f) (.int .i64 r) (.int .i64 u) (.int .i64 xp) (.int .i64 xn) (.int .i64 yp) (.int .i64 yn) (.slice (some ⟨g, 0, none⟩) im im) (.int .i64 a) (.int .i64 b)).heap.size (set11 U4 (w.heap.size + 1) (.int .i64 k) (.int .i64 f) (.int .i64 r) (.int .i64 u) (.int .i64 xp) (.int .i64 xn) (.int .i64 yp) (.int .i64 yn) (.slice (some ⟨g, 0, none⟩) im im) (.int .i64 a) (.int .i64 b)) (some ⟨g, 0, none⟩) im im xs ∧ (set11 U4 (w.heap.size + 1) (.int .i64 k) (.int .i64 f) (.int .i64 r) (.int .i64 u) (.int .i64 xp) (.int .i64 xn) (.int .i64 yp) (.int .i64 yn) (.slice (some ⟨g, 0, none⟩) im im) (.int .i64 a) (.int .i64 b)).rowIs g 29 (im * 2) (cellP xs im) ∧ Below w.heap.size w (set11 U4 (w.heap.size + 1) (.int .i64 k) (.int .i64 f) (.int .i64 r) (.int .i64 u) (.int .i64 xp) (.int .i64 xn) (.int .i64 yp) (.int .i64 yn) (.slice (some ⟨g, 0, none⟩) im im) (.int .i64 a) (.int .i64 b))) := by
    have hr : (set11 U4 (w.heap.size + 1) (.int .i64 k) (.int .i64 f) (.int .i64 r) (.int .i64 u) (.int .i64 xp) (.int .i64 xn) (.int .i64 yp) (.int .i64 yn) (.slice (some ⟨g, 0, none⟩) im im) (.int .i64 a) (.int .i64 b)).rowIs g 29 (im * 2) (cellP xs im) := HRow4.out.of_block (heap_set11 _ _ _ _ _ _ _ _ _ _ _ _ (by omega))
    exact ⟨rowP_rd hr HLen.out him (by omega) hr.lt, hr, below_set11 (HB0.out.trans (HBU4.out.mono (by omega))) (by omega) _ _ _ _ _ _ _ _ _ _ _⟩
  simp only [set11] at s0 s1 s2 s3 s4 s5 s6 s7 s8 s9 s10
  clear hrx4
  go_wp2_with fail
  refine bodyPost_ret (v := .agg #[.int .i64 k, .int .i64 f, .int .i64 r, .int .i64 u, .int .i64 xp, .int .i64 xn, .int .i64 yp, .int .i64 yn, .slice (some ⟨g, 0, none⟩) im im, .int .i64 a, .int .i64 b]) (by simp [results, Tryd.results7, go_sem, s0, s1, s2, s3, s4, s5, s6, s7, s8, s9, s10]) rfl ?_
  exact ⟨g, rfl, HPost.out⟩

end Go.Proofs.YtlhfecfpkelkdaaDoor
