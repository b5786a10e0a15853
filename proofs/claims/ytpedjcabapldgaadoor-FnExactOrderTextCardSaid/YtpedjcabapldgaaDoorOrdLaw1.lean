/- The laws' own count, comparison and copy of the lists of an order. -/
import Derived.Test.YtpedjcabapldgaaDoorOrdMem
import Derived.Test.YtpedjcabapldgaaDoorWdLaw2
import Derived.Deep.RegionWith
namespace Go.Proofs.YtpedjcabapldgaaDoor
open Go.RowKit

theorem szEdgeS_any (a : Option Addr) (n cap : Nat) (left : Int) (w : World) (hl : 0 ≤ left ∧ left ≤ 1048576) (hn : n ≤ 9223372036854775807) :
    Calls Tryd.prog 14 #[.slice a n cap, .int .i64 left] w fun e w' => e = .returned (.int .i64 (szRes left n)) ∧ w' = w := by
  obtain ⟨h0, h1⟩ := hl
  by_cases h : left < n
  · have HE : Hid (szRes left n = -1) := if_pos h
    go_enter Tryd.func14, Tryd.ntmps14
    go_wp2
    go_ret
    exact ⟨ri HE.out.symm, rfl⟩
  · have HE : Hid (szRes left n = left - n) := if_neg h
    go_enter Tryd.func14, Tryd.ntmps14
    go_wp2
    go_ret
    exact ⟨ri HE.out.symm, rfl⟩

set_option maxHeartbeats 800000 in
theorem szByteSSS_any (a : Option Addr) (n cap : Nat) (xs : List (List (List Int))) (left : Int) (w : World) {lo hi : Nat} (h : RSSS lo hi w a n cap xs) (h0 : 0 ≤ left) (h1 : left ≤ 1048576) :
    Calls Tryd.prog 13 #[.slice a n cap, .int .i64 left] w fun e w' => ∃ r : Int, e = .returned (.int .i64 r) ∧ r ≤ left ∧ (¬ r < 0 → BdSSS n xs) ∧ w' = w := by
  have HR : Hid (RSSS lo hi w a n cap xs) := h
  obtain ⟨hl, ⟨hm, hM⟩, hcs⟩ := h
  clear hcs hl
  by_cases hbig : left < n
  · go_enter Tryd.func13, Tryd.ntmps13
    go_wp2_with fail
    go_ret
    exact ⟨-1, rfl, by omega, fun hh => by omega, rfl⟩
  · go_enter Tryd.func13, Tryd.ntmps13
    go_wp2_with fail
    go_loopw [1, 5] (fun l i wr => ∃ (k : Nat) (L : Int), k ≤ n ∧ i = .int .i64 k ∧ l = .int .i64 L ∧ 0 ≤ L ∧ L ≤ left ∧ (∀ j, j < k → (xs.getD j []).length ≤ 1048576 ∧ ∀ i, i < (xs.getD j []).length → ((xs.getD j []).getD i []).length ≤ 1048576) ∧ wr = w) (fun _ i _ => n - (intOf i).toNat)
    case atStart => exact ⟨0, left - n, Nat.zero_le _, rfl, by go_num, by omega, by omega, fun i hi => by omega, rfl⟩
    case round =>
      obtain ⟨k, L, hk, rfl, rfl, hL0, hL1, hall, rfl⟩ := hrel
      have HAll : Hid (∀ j, j < k → (xs.getD j []).length ≤ 1048576 ∧ ∀ i, i < (xs.getD j []).length → ((xs.getD j []).getD i []).length ≤ 1048576) := hall
      clear hall
      by_cases hlt : k < n
      · rcases HR.out.cells with hz | ⟨b, off, e1, _, _, hc⟩
        · omega
        · subst e1
          obtain ⟨v, c0, ea, en, ec, rfl, hr⟩ := hc k hlt
          have hki : (k : Int) < (n : Int) := by omega
          have HRe : Hid (RSS lo hi wr ea en ec (xs.getD k [])) := hr
          have HEn : Hid ((xs.getD k []).length = en) := hr.len
          clear hc hr
          go_wp2_with fail
          refine (szByteSS_any ea en ec (xs.getD k []) L wr HRe.out hL0 (by omega)).mono ?_
          rintro e w' ⟨r, rfl, hr1, hr2, hw'⟩
          rw [hw']
          have HB2 : Hid (¬ r < 0 → en ≤ 1048576 ∧ ∀ i, i < en → ((xs.getD k []).getD i []).length ≤ 1048576) := hr2
          clear hw' hr2
          by_cases hneg : r < 0
          · go_wp2_with fail
            go_ret
            exact ⟨-1, rfl, by omega, fun hh => by omega, rfl⟩
          · go_wp2_with fail
            go_roundw
            case rel => exact ⟨k + 1, r, by omega, by go_num, rfl, by omega, by omega, fun i hi => by
              by_cases hik : i < k
              · exact HAll.out i hik
              · obtain rfl : i = k := by omega
                rw [HEn.out]; exact HB2.out hneg, by first | rfl | trivial⟩
            case measure => simp [intOf]; omega
      · have hkn : k = n := by omega
        subst hkn
        go_wp2_with fail
        go_ret
        exact ⟨L, rfl, hL1, fun _ => ⟨by omega, HAll.out⟩, rfl⟩

theorem eqEdge_same (p n : Int) (w : World) :
    Calls Tryd.prog 34 #[.agg #[.int .i64 p, .int .i64 n], .agg #[.int .i64 p, .int .i64 n]] w fun e w' => e = .returned (.bool true) ∧ Below w.heap.size w w' := by
  have hp : (p != p) = false := by simp
  have hn : (n != n) = false := by simp
  have HB0 : Hid (Below w.heap.size w ((w.alloc (.cells #[.int .i64 p, .int .i64 n] 44)).alloc (.cells #[.int .i64 p, .int .i64 n] 44))) := ((Below.refl _ _).alloc (Nat.le_refl _) _).alloc (by simp) _
  go_enter Tryd.func34, Tryd.ntmps34
  go_wp2
  go_ret
  exact ⟨rfl, HB0.out⟩

set_option maxHeartbeats 1000000 in
theorem eqEdgeS_same {a a' : Option Addr} {n cap cap' : Nat} {xs : List (Int × Int)} {w : World} {lo hi lo' hi' : Nat} (h : RP lo hi w a n cap xs) (h' : RP lo' hi' w a' n cap' xs) (hh : hi ≤ w.heap.size) (hh' : hi' ≤ w.heap.size) :
    Calls Tryd.prog 22 #[.slice a n cap, .slice a' n cap'] w fun e w' => e = .returned (.bool true) ∧ Below w.heap.size w w' := by
  have hb0 : ((n : Int) != (n : Int)) = false := by simp
  have HR : Hid (RP lo hi w a n cap xs) := h
  have HR' : Hid (RP lo' hi' w a' n cap' xs) := h'
  have hn := h.fits
  have hn' := h'.fits
  by_cases hz : n = 0
  · subst hz
    clear h h' HR HR'
    go_enter Tryd.func22, Tryd.ntmps22
    go_wp2
    refine wp_loop_rounds 1 ?_
    rw [rounds_succ]
    go_wp2
    go_ret
    exact ⟨rfl, Below.refl _ _⟩
  · obtain ⟨b, off, rfl⟩ : ∃ b off, a = some ⟨b, off, none⟩ := by
      rcases h.cells with h0 | ⟨b, off, e, _⟩
      · exact absurd h0 hz
      · exact ⟨b, off, e⟩
    obtain ⟨b', off', rfl⟩ : ∃ b off, a' = some ⟨b, off, none⟩ := by
      rcases h'.cells with h0 | ⟨b, off, e, _⟩
      · exact absurd h0 hz
      · exact ⟨b, off, e⟩
    obtain ⟨hn1, hn2⟩ := hn
    obtain ⟨hn1', hn2'⟩ := hn'
    clear h h' hz
    go_enter Tryd.func22, Tryd.ntmps22
    go_wp2
    go_loopw [5] (fun i wr => ∃ k : Nat, k ≤ n ∧ i = .int .i64 k ∧ Below w.heap.size w wr) (fun i _ => n - (intOf i).toNat)
    case atStart => exact ⟨0, Nat.zero_le _, rfl, Below.refl _ _⟩
    case round =>
      obtain ⟨k, hk, rfl, hbel⟩ := hrel
      have HB : Hid (Below w.heap.size w wr) := hbel
      by_cases hlt : k < n
      · obtain ⟨c1, c2, _⟩ := (HR.out.below hbel hh).at hlt
        obtain ⟨c1', c2', _⟩ := (HR'.out.below hbel hh').at hlt
        obtain ⟨t, ht⟩ : ∃ t, t = xs.getD k (0, 0) := ⟨_, rfl⟩
        rw [← ht] at c1 c2 c1' c2'
        obtain ⟨tp, tn⟩ := t
        have hki : (k : Int) < (n : Int) := by omega
        clear ht hbel
        go_wp2
        first | go_region_with (go_at_call 34; refine (eqEdge_same tp tn _).mono ?_; rintro e w' ⟨rfl, hbe⟩) | fail
        all_goals
          go_wp2
          go_roundw
          case rel => exact ⟨k + 1, by omega, by go_num, HB.out.drew.trans (hbe.mono HB.out.size)⟩
          case measure => simp [intOf]; omega
      · clear hbel
        go_wp2
        go_ret
        exact ⟨rfl, HB.out⟩

set_option maxHeartbeats 800000 in
theorem eqByteSSS_any (a a' : Option Addr) (n cap cap' : Nat) (xs : List (List (List Int))) (w : World) {lo hi lo' hi' : Nat} (h : RSSS lo hi w a n cap xs) (h' : RSSS lo' hi' w a' n cap' xs) (hh : hi ≤ w.heap.size) (hh' : hi' ≤ w.heap.size) :
    Calls Tryd.prog 21 #[.slice a n cap, .slice a' n cap'] w fun e w' => e = .returned (.bool true) ∧ Below w.heap.size w w' := by
  have HR : Hid (RSSS lo hi w a n cap xs) := h
  have HR' : Hid (RSSS lo' hi' w a' n cap' xs) := h'
  obtain ⟨hl, ⟨hm, hM⟩, hcs⟩ := h
  obtain ⟨hl', ⟨hm', hM'⟩, hcs'⟩ := h'
  have hb0 : ((n : Int) != (n : Int)) = false := by simp
  clear hcs hcs' hl hl'
  go_enter Tryd.func21, Tryd.ntmps21
  go_wp2_with fail
  go_loopw [5] (fun i wr => ∃ k : Nat, k ≤ n ∧ i = .int .i64 k ∧ Below w.heap.size w wr) (fun i _ => n - (intOf i).toNat)
  case atStart => exact ⟨0, Nat.zero_le _, rfl, Below.refl _ _⟩
  case round =>
    obtain ⟨k, hk, rfl, hbel⟩ := hrel
    have HB : Hid (Below w.heap.size w wr) := hbel
    by_cases hlt : k < n
    · have h1 := HR.out.below hbel hh
      have h2 := HR'.out.below hbel hh'
      rcases h1.cells with h0 | ⟨b1, off1, e1, _, _, hc1⟩
      · omega
      · rcases h2.cells with h0 | ⟨b2, off2, e2, _, _, hc2⟩
        · omega
        · subst e1 e2
          obtain ⟨v, c0, ea, en, ec, rfl, hr⟩ := hc1 k hlt
          obtain ⟨v', c0', xa, xn, xc, rfl, hr'⟩ := hc2 k hlt
          have hxe : xn = en := by have h1 := hr.len; have h2 := hr'.len; omega
          subst hxe
          have HK := hr.same (w' := wr.drew) (fun _ _ _ => rfl)
          have HK' := hr'.same (w' := wr.drew) (fun _ _ _ => rfl)
          have HK1 : Hid _ := HK
          have HK1' : Hid _ := HK'
          have hki : (k : Int) < (n : Int) := by omega
          clear h1 h2 hc1 hc2 hr hr' hbel HK HK'
          go_wp2_with fail
          go_region_with (go_at_call 33; refine (eqByteSS_any ea xa xn ec xc (xs.getD k []) wr.drew (lo := lo) (hi := hi) (lo' := lo') (hi' := hi') HK1.out HK1'.out (Nat.le_trans hh HB.out.size) (Nat.le_trans hh' HB.out.size)).mono ?_; rintro e w' ⟨rfl, hbe0⟩; have hbe : Below wr.heap.size wr w' := ((Below.refl _ _).drew).trans hbe0; clear hbe0)
          all_goals
            go_wp2_with fail
            go_roundw
            case rel => exact ⟨k + 1, by omega, by go_num, HB.out.trans (hbe.mono HB.out.size)⟩
            case measure => simp [intOf]; omega
    · clear hbel
      go_wp2_with fail
      go_ret
      exact ⟨rfl, HB.out⟩

theorem toEdge_any (p n : Int) (w : World) :
    Calls Tryd.prog 29 #[.agg #[.int .i64 p, .int .i64 n]] w fun e w' => e = .returned (.agg #[.int .i64 p, .int .i64 n]) ∧ Below w.heap.size w w' := by
  have HB0 : Hid (Below w.heap.size w (((w.alloc (.cells #[.int .i64 p, .int .i64 n] 56)).alloc (.cells #[.int .i64 p, .int .i64 n] 44)).alloc (.cells #[.int .i64 p, .int .i64 n] 44))) :=
    (((Below.refl _ _).alloc (Nat.le_refl _) _).alloc (by simp) _).alloc (by simp; omega) _
  go_enter Tryd.func29, Tryd.ntmps29
  go_wp2
  refine bodyPost_ret (v := .agg #[.int .i64 p, .int .i64 n]) (by simp [results, Tryd.results29, go_sem]) rfl ⟨rfl, HB0.out⟩

/-! ### The copy -/

theorem Tryd.infoEdge : (Tryd.prog.info? 44).map (fun i => (i.zero, i.size, i.bytes)) = some (some (.agg #[.int .i64 0, .int .i64 0]), 2, 16) := by kernel_rfl

/-- The cell j of a row of parts of which the first k are laid. -/
def cellP (xs : List (Int × Int)) (k j : Nat) : Value :=
  if j / 2 < k then (if j % 2 = 0 then .int .i64 (xs.getD (j / 2) (0, 0)).1 else .int .i64 (xs.getD (j / 2) (0, 0)).2) else .int .i64 0

theorem cellP_new (xs : List (Int × Int)) {k i : Nat} (h : i < k) : cellP xs k (i * 2) = .int .i64 (xs.getD i (0, 0)).1 ∧ cellP xs k (i * 2 + 1) = .int .i64 (xs.getD i (0, 0)).2 := by
  have e0 : i * 2 / 2 = i := by omega
  have e1 : (i * 2 + 1) / 2 = i := by omega
  have m1 : (i * 2 + 1) % 2 = 1 := by omega
  refine ⟨?_, ?_⟩
  · simp [cellP, e0, h]
  · simp [cellP, e1, m1, h]

theorem cellP_old (xs : List (Int × Int)) {k i : Nat} (h : k ≤ i) : cellP xs k (i * 2) = .int .i64 0 ∧ cellP xs k (i * 2 + 1) = .int .i64 0 := by
  have e0 : i * 2 / 2 = i := by omega
  have e1 : (i * 2 + 1) / 2 = i := by omega
  have hn : ¬ i < k := by omega
  refine ⟨?_, ?_⟩
  · simp [cellP, e0, hn]
  · simp [cellP, e1, hn]

theorem rowP_made (w : World) (xs : List (Int × Int)) (n : Nat) : (w.alloc (.cells (madeCells #[.int .i64 0, .int .i64 0] (n * 2)) 44)).rowIs w.heap.size 44 (n * 2) (cellP xs 0) := by
  have key := World.rowIs_alloc w (madeCells #[.int .i64 0, .int .i64 0] (n * 2)) 44 (cellP xs 0) (fun i hi => ?_)
  · rw [size_madeCells] at key; exact key
  rw [size_madeCells] at hi
  have : i % 2 = 0 ∨ i % 2 = 1 := by omega
  rcases this with h | h <;> simp [madeCells, hi, cellP, h]

theorem rowP_step {w : World} {g n k : Nat} {xs : List (Int × Int)} {p q : Int} (hp : p = (xs.getD k (0, 0)).1) (hq : q = (xs.getD k (0, 0)).2) (h : w.rowIs g 44 (n * 2) (cellP xs k)) :
    ((w.setCell ⟨g, k * 2, none⟩ (.int .i64 p)).setCell ⟨g, k * 2 + 1, none⟩ (.int .i64 q)).rowIs g 44 (n * 2) (cellP xs (k + 1)) := by
  subst hp hq
  refine ((h.set (k * 2) _).set (k * 2 + 1) _).congr fun j hj => ?_
  have hd : ∃ i, j = i * 2 ∨ j = i * 2 + 1 := ⟨j / 2, by omega⟩
  obtain ⟨i, hd⟩ := hd
  by_cases hik : i = k
  · subst hik
    obtain ⟨c0, c1⟩ := cellP_new xs (Nat.lt_succ_self i)
    rcases hd with rfl | rfl
    · rw [c0]; simp
    · rw [c1]; simp
  · have n0 : j ≠ k * 2 := by omega
    have n1 : j ≠ k * 2 + 1 := by omega
    simp only [if_neg n0, if_neg n1]
    by_cases hlt : i < k
    · obtain ⟨c0, c1⟩ := cellP_new xs (show i < k + 1 by omega)
      obtain ⟨d0, d1⟩ := cellP_new xs hlt
      rcases hd with rfl | rfl
      · rw [c0, d0]
      · rw [c1, d1]
    · obtain ⟨c0, c1⟩ := cellP_old xs (show k + 1 ≤ i by omega)
      obtain ⟨d0, d1⟩ := cellP_old xs (show k ≤ i by omega)
      rcases hd with rfl | rfl
      · rw [c0, d0]
      · rw [c1, d1]

theorem rowP_rd {lo hi : Nat} {w : World} {g n : Nat} {xs : List (Int × Int)} (h : w.rowIs g 44 (n * 2) (cellP xs n)) (hl : xs.length = n) (hn : n ≤ 1048576) (h1 : lo ≤ g) (h2 : g < hi) : RP lo hi w (some ⟨g, 0, none⟩) n n xs := by
  refine ⟨hl, ⟨Nat.le_refl _, by omega⟩, .inr ⟨g, 0, rfl, h1, h2, fun i hi => ?_⟩⟩
  obtain ⟨c0, c1⟩ := cellP_new xs hi
  simp only [Nat.zero_add]
  rw [h.cell (show i * 2 < n * 2 by omega), h.cell (show i * 2 + 1 < n * 2 by omega), c0, c1]
  exact ⟨rfl, rfl⟩

set_option maxHeartbeats 800000 in
theorem toEdgeS_any {a : Option Addr} {n cap : Nat} {xs : List (Int × Int)} {w : World} {lo hi : Nat} (h : RP lo hi w a n cap xs) (hhi : hi ≤ w.heap.size) (hn1 : n ≤ 1048576) :
    Calls Tryd.prog 18 #[.slice a n cap] w fun e w' => e = .returned (.slice (some ⟨w.heap.size, 0, none⟩) n n) ∧ w'.rowIs w.heap.size 44 (n * 2) (cellP xs n) ∧ Below w.heap.size w w' := by
  have H : Hid (RP lo hi w a n cap xs) := h
  obtain ⟨hl, ⟨hm, hM⟩, hcs⟩ := h
  clear hcs
  have hmk : ∀ w : World, (Instr.makeSlice 29 (.int .i64 (n : Int)) (.int .i64 (n : Int))).run Tryd.prog w = .ok (.slice (some ⟨w.heap.size, 0, none⟩) n n) (w.alloc (.cells (madeCells #[.int .i64 0, .int .i64 0] (n * 2)) 44)) := by
    intro w
    obtain ⟨i0, hi0, hz0, hz1, hz2⟩ := info_parts Tryd.infoEdge
    have hr := run_make (P := Tryd.prog) w 29 44 i0 _ Tryd.underlying29 hi0 hz0 .i64 .i64 n n (by omega) (Int.le_refl _) (by rw [hz2]; omega) (by omega)
    simp only [Int.toNat_natCast, hz1] at hr
    exact hr
  have HL : Hid (xs.length = n) := hl
  have h0 : Hid ((w.alloc (.cells (madeCells #[.int .i64 0, .int .i64 0] (n * 2)) 44)).rowIs w.heap.size 44 (n * 2) (cellP xs 0)) := rowP_made w xs n
  clear hl
  go_enter Tryd.func18, Tryd.ntmps18
  go_wp2
  go_loopw [4] (fun i wr => ∃ k : Nat, k ≤ n ∧ i = .int .i64 k ∧ wr.rowIs w.heap.size 44 (n * 2) (cellP xs k) ∧ Below w.heap.size w wr) (fun i _ => n - (intOf i).toNat)
  case atStart => exact ⟨0, Nat.zero_le _, rfl, h0.out, (Below.refl _ _).alloc (Nat.le_refl _) _⟩
  case round =>
    obtain ⟨k, hk, rfl, hrow, hbel⟩ := hrel
    have HB : Hid (Below w.heap.size w wr) := hbel
    have HRow : Hid (wr.rowIs w.heap.size 44 (n * 2) (cellP xs k)) := hrow
    by_cases hlt : k < n
    · have hR := H.out.below hbel hhi
      rcases hR.cells with h0 | ⟨b, off, e1, _, hbh, hc⟩
      · omega
      · subst e1
        obtain ⟨c1, c2⟩ := hc k hlt
        obtain ⟨t, ht⟩ : ∃ t, t = xs.getD k (0, 0) := ⟨_, rfl⟩
        have HT : Hid (t = xs.getD k (0, 0)) := ht
        rw [← ht] at c1 c2
        obtain ⟨tp, tn⟩ := t
        have hki : (k : Int) < (n : Int) := by omega
        have hlw := hrow.lt
        clear hR hc ht hbel hrow
        go_wp2_with fail
        refine (toEdge_any tp tn _).mono ?_
        rintro e w1 ⟨rfl, hb1⟩
        have hrow1 : w1.rowIs w.heap.size 44 (n * 2) (cellP xs k) := HRow.out.of_block (hb1.block _ hlw)
        obtain ⟨o0, o1⟩ := cellP_old xs (Nat.le_refl k)
        have d0 : w1.cell? ⟨w.heap.size, k * 2, none⟩ = some (.int .i64 0) := by rw [hrow1.cell (show k * 2 < n * 2 by omega), o0]
        have d1 : w1.cell? ⟨w.heap.size, k * 2 + 1, none⟩ = some (.int .i64 0) := by rw [hrow1.cell (show k * 2 + 1 < n * 2 by omega), o1]
        have f0 := hrow1.frozen (k * 2)
        have f1 := hrow1.frozen (k * 2 + 1)
        have HRow1 : Hid (((w1.setCell ⟨w.heap.size, k * 2, none⟩ (.int .i64 tp)).setCell ⟨w.heap.size, k * 2 + 1, none⟩ (.int .i64 tn)).rowIs w.heap.size 44 (n * 2) (cellP xs (k + 1))) := rowP_step (by rw [← HT.out]) (by rw [← HT.out]) hrow1
        have HB1 : Hid (Below w.heap.size w ((w1.setCell ⟨w.heap.size, k * 2, none⟩ (.int .i64 tp)).setCell ⟨w.heap.size, k * 2 + 1, none⟩ (.int .i64 tn))) := ((HB.out.trans (hb1.mono HB.out.size)).setCell (Nat.le_refl _) _).setCell (Nat.le_refl _) _
        clear hrow1 hb1
        go_wp2
        go_roundw
        case rel => exact ⟨k + 1, by omega, by go_num, HRow1.out, HB1.out⟩
        case measure => simp [intOf]; omega
    · have hkn : k = n := by omega
      have HE : Hid (wr.rowIs w.heap.size 44 (n * 2) (cellP xs n)) := by subst hkn; exact hrow
      clear hkn hrow hbel
      go_wp2
      go_ret
      exact ⟨rfl, HE.out, HB.out⟩

theorem Tryd.infotoByteSSS : (Tryd.prog.info? 42).map (fun i => (i.zero, i.size, i.bytes)) = some (some (.slice none 0 0), 1, 24) := by kernel_rfl

set_option maxHeartbeats 1600000 in
theorem toByteSSS_any (a : Option Addr) (n cap : Nat) (xs : List (List (List Int))) (w : World) {lo hi : Nat} (h : RSSS lo hi w a n cap xs) (hhi : hi ≤ w.heap.size) (hbd : BdSSS n xs) :
    Calls Tryd.prog 17 #[.slice a n cap] w fun e w' => e = .returned (.slice (some ⟨w.heap.size, 0, none⟩) n n) ∧ RSSS w.heap.size w'.heap.size w' (some ⟨w.heap.size, 0, none⟩) n n xs ∧ Below w.heap.size w w' := by
  obtain ⟨hn, hln⟩ := hbd
  have HR0 : Hid (RSSS lo hi w a n cap xs) := h
  obtain ⟨hl, ⟨hm, _⟩, _⟩ := h
  have hmk := fun w : World => run_make_row' (P := Tryd.prog) 22 42 (.slice none 0 0) 24 Tryd.underlying22 Tryd.infotoByteSSS rfl .i64 .i64 n (by omega) (by omega) w
  have HL : Hid (xs.length = n) := hl
  have h0 : Hid ((w.alloc (.cells (madeCells #[(.slice none 0 0)] n) 42)).rowIs w.heap.size 42 n (partV (.slice none 0 0) (fun _ => (.slice none 0 0)) 0)) := (World.rowIs_made w (.slice none 0 0) n 42).congr (fun i _ => by simp [partV])
  have HLn0 : Hid (∀ j, j < n → (xs.getD j []).length ≤ 1048576 ∧ ∀ i, i < (xs.getD j []).length → ((xs.getD j []).getD i []).length ≤ 1048576) := hln
  clear hl hln
  go_enter Tryd.func17, Tryd.ntmps17
  go_wp2_with fail
  go_loopw [4] (fun i wr => ∃ (k : Nat) (V : Nat → Value), k ≤ n ∧ i = .int .i64 k ∧ wr.rowIs w.heap.size 42 n (partV (.slice none 0 0) V k) ∧ (∀ j, j < k → SlSS (w.heap.size + 1) wr.heap.size wr (V j) (xs.getD j [])) ∧ Below w.heap.size w wr ∧ w.heap.size + 1 ≤ wr.heap.size) (fun i _ => n - (intOf i).toNat)
  case atStart => exact ⟨0, _, Nat.zero_le _, rfl, h0.out, fun j hj => by omega, (Below.refl _ _).alloc (Nat.le_refl _) _, by simp⟩
  case round =>
    obtain ⟨k, V, hk, rfl, hrow, hkids, hbel, hsz⟩ := hrel
    have HB : Hid (Below w.heap.size w wr) := hbel
    have HRow : Hid (wr.rowIs w.heap.size 42 n (partV (.slice none 0 0) V k)) := hrow
    have HKids : Hid (∀ j, j < k → SlSS (w.heap.size + 1) wr.heap.size wr (V j) (xs.getD j [])) := hkids
    by_cases hlt : k < n
    · have hR := HR0.out.below hbel hhi
      rcases hR.cells with hz | ⟨b, off, e1, _, hbhi, hc⟩
      · omega
      · subst e1
        obtain ⟨v, c0, ea, en, ec, rfl, hr0⟩ := hc k hlt
        have hr : Hid (RSS lo hi wr ea en ec (xs.getD k [])) := hr0
        have hki : (k : Int) < (n : Int) := by omega
        have HLn : Hid (en ≤ 1048576 ∧ ∀ i, i < en → ((xs.getD k []).getD i []).length ≤ 1048576) := by have := HLn0.out k hlt; rw [hr0.len] at this; exact this
        clear hR hc hr0 hrow hkids hbel
        go_wp2_with fail
        refine (toByteSS_any ea en ec (xs.getD k []) wr hr.out (Nat.le_trans hhi HB.out.size) HLn.out.1 HLn.out.2).mono ?_
        rintro e w' ⟨rfl, hrow', hb'⟩
        have HNew : Hid (SlSS wr.heap.size w'.heap.size w' (.slice (some ⟨wr.heap.size, 0, none⟩) en en) (xs.getD k [])) := ⟨_, _, _, rfl, hrow'⟩
        have hrow2 : w'.rowIs w.heap.size 42 n (partV (.slice none 0 0) V k) := rowIs_block HRow.out (hb'.block _ (rowIs_lt HRow.out))
        have hfz := hrow2.frozen k
        have hold : w'.cell? ⟨w.heap.size, k, none⟩ = some (.slice none 0 0) := by have := hrow2.cell hlt; simpa [partV] using this
        obtain ⟨U, hU⟩ : ∃ U, U = w'.setCell ⟨w.heap.size, k, none⟩ (.slice (some ⟨wr.heap.size, 0, none⟩) en en) := ⟨_, rfl⟩
        have HU : Hid (U = w'.setCell ⟨w.heap.size, k, none⟩ (.slice (some ⟨wr.heap.size, 0, none⟩) en en)) := hU
        have hsU : U.heap.size = w'.heap.size := by rw [hU]; simp
        have hsm : Same (w.heap.size + 1) w'.heap.size w' U := by rw [hU]; exact fun b h1 _ => Below.heap_setCell w' ⟨w.heap.size, k, none⟩ _ b (by show b ≠ w.heap.size; omega)
        have HR2 : Hid (U.rowIs w.heap.size 42 n (partV (.slice none 0 0) (fun i => if i = k then .slice (some ⟨wr.heap.size, 0, none⟩) en en else V i) (k + 1))) := by unfold Hid; rw [hU]; exact partV_step _ hrow2
        have HB2 : Hid (Below w.heap.size w U) := by unfold Hid; rw [hU]; exact (HB.out.trans (hb'.mono HB.out.size)).setCell (Nat.le_refl _) _
        have HK2 : Hid (∀ j, j < k + 1 → SlSS (w.heap.size + 1) U.heap.size U (if j = k then .slice (some ⟨wr.heap.size, 0, none⟩) en en else V j) (xs.getD j [])) := by
          intro j hj
          rw [hsU]
          by_cases e : j = k
          · subst e
            rw [if_pos rfl]
            exact (HNew.out.mono (by omega) (Nat.le_refl _)).same hsm
          · rw [if_neg e]
            exact (((HKids.out j (by omega)).same (Same.of_below hb' (Nat.le_refl _))).mono (Nat.le_refl _) hb'.size).same hsm
        have hsz2 : w.heap.size + 1 ≤ U.heap.size := by have := hb'.size; omega
        clear hrow' hb' hrow2 hsm hU
        go_wp2_with fail
        rw [← HU.out]
        go_roundw
        case rel => exact ⟨k + 1, _, by omega, by go_num, HR2.out, HK2.out, HB2.out, hsz2⟩
        case measure => simp [intOf]; omega
    · have hkn : k = n := by omega
      have HRd : Hid (RSSS w.heap.size wr.heap.size wr (some ⟨w.heap.size, 0, none⟩) n n xs) := by
        refine ⟨HL.out, ⟨Nat.le_refl _, by omega⟩, .inr ⟨w.heap.size, 0, rfl, Nat.le_refl _, by omega, fun i hi => ⟨V i, ?_, (HKids.out i (by omega)).mono (by omega) (Nat.le_refl _)⟩⟩⟩
        have := HRow.out.cell hi
        rw [Nat.zero_add, this]
        simp [partV, hkn, hi]
      clear hrow hkids hbel hkn
      go_wp2_with fail
      go_ret
      exact ⟨rfl, HRd.out, HB.out⟩

end Go.Proofs.YtpedjcabapldgaaDoor
