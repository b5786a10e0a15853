/- Several texts in one: WdLaw1, WdLaw2. -/
import Derived.Test.YtfbokljbmihlbaaGreatWdMem
import Derived.Test.YtfbokljbmihlbaaGreatNSz
import Derived.Test.YtfbokljbmihlbaaGreatConTo
import Derived.Deep.RegionWith
namespace Go.Proofs.YtfbokljbmihlbaaGreat

section
open Go.RowKit

theorem szBoolS_any (a : Option Addr) (n cap : Nat) (left : Int) (w : World) (hl : 0 ≤ left ∧ left ≤ 1048576) (hn : n ≤ 9223372036854775807) :
    Calls Tryz.prog 47 #[.slice a n cap, .int .i64 left] w fun e w' => e = .returned (.int .i64 (szRes left n)) ∧ w' = w := by
  obtain ⟨h0, h1⟩ := hl
  by_cases h : left < n
  · have HE : Hid (szRes left n = -1) := if_pos h
    go_enter Tryz.func47, Tryz.ntmps47
    go_wp2
    go_ret
    exact ⟨ri HE.out.symm, rfl⟩
  · have HE : Hid (szRes left n = left - n) := if_neg h
    go_enter Tryz.func47, Tryz.ntmps47
    go_wp2
    go_ret
    exact ⟨ri HE.out.symm, rfl⟩

theorem szIntS_any (a : Option Addr) (n cap : Nat) (left : Int) (w : World) (hl : 0 ≤ left ∧ left ≤ 1048576) (hn : n ≤ 9223372036854775807) :
    Calls Tryz.prog 20 #[.slice a n cap, .int .i64 left] w fun e w' => e = .returned (.int .i64 (szRes left n)) ∧ w' = w := by
  obtain ⟨h0, h1⟩ := hl
  by_cases h : left < n
  · have HE : Hid (szRes left n = -1) := if_pos h
    go_enter Tryz.func20, Tryz.ntmps20
    go_wp2
    go_ret
    exact ⟨ri HE.out.symm, rfl⟩
  · have HE : Hid (szRes left n = left - n) := if_neg h
    go_enter Tryz.func20, Tryz.ntmps20
    go_wp2
    go_ret
    exact ⟨ri HE.out.symm, rfl⟩

set_option maxHeartbeats 800000 in
theorem szByteSS_any (a : Option Addr) (n cap : Nat) (xs : List (List Int)) (left : Int) (w : World) {lo hi : Nat} (h : RSS lo hi w a n cap xs) (h0 : 0 ≤ left) (h1 : left ≤ 1048576) :
    Calls Tryz.prog 18 #[.slice a n cap, .int .i64 left] w fun e w' => ∃ r : Int, e = .returned (.int .i64 r) ∧ r ≤ left ∧ (¬ r < 0 → n ≤ 1048576 ∧ ∀ i, i < n → (xs.getD i []).length ≤ 1048576) ∧ w' = w := by
  have HR : Hid (RSS lo hi w a n cap xs) := h
  obtain ⟨hl, ⟨hm, hM⟩, hcs⟩ := h
  clear hcs hl
  by_cases hbig : left < n
  · go_enter Tryz.func18, Tryz.ntmps18
    go_wp2_with fail
    go_ret
    exact ⟨-1, rfl, by omega, fun hh => by omega, rfl⟩
  · go_enter Tryz.func18, Tryz.ntmps18
    go_wp2_with fail
    go_loopw [1, 5] (fun l i wr => ∃ (k : Nat) (L : Int), k ≤ n ∧ i = .int .i64 k ∧ l = .int .i64 L ∧ 0 ≤ L ∧ L ≤ left ∧ (∀ i, i < k → (xs.getD i []).length ≤ 1048576) ∧ wr = w) (fun _ i _ => n - (intOf i).toNat)
    case atStart => exact ⟨0, left - n, Nat.zero_le _, rfl, by go_num, by omega, by omega, fun i hi => by omega, rfl⟩
    case round =>
      obtain ⟨k, L, hk, rfl, rfl, hL0, hL1, hall, rfl⟩ := hrel
      have HAll : Hid (∀ i, i < k → (xs.getD i []).length ≤ 1048576) := hall
      clear hall
      by_cases hlt : k < n
      · rcases HR.out.cells with hz | ⟨b, off, e1, _, _, hc⟩
        · omega
        · subst e1
          obtain ⟨v, c0, ea, en, ec, rfl, hr⟩ := hc k hlt
          have hki : (k : Int) < (n : Int) := by omega
          have hen : (xs.getD k []).length = en := hr.len
          have hef := hr.fits
          obtain ⟨r, hrr⟩ : ∃ r, r = szRes L en := ⟨_, rfl⟩
          have HRR : Hid (r = szRes L en) := hrr
          have HEn : Hid ((xs.getD k []).length = en) := hen
          clear hc hr hrr hen
          go_wp2_with fail
          refine (szByteS_any ea en ec L wr ⟨hL0, by omega⟩ (by omega)).mono ?_
          rintro e w' ⟨rfl, hw'⟩
          rw [← HRR.out, hw']
          clear hw'
          by_cases hneg : r < 0
          · go_wp2_with fail
            go_ret
            exact ⟨-1, rfl, by omega, fun hh => by omega, rfl⟩
          · have HLe : Hid (r = L - en ∧ (en : Int) ≤ L) := by
              have e := HRR.out
              unfold szRes at e
              split at e
              · omega
              · exact ⟨e, by omega⟩
            go_wp2_with fail
            go_roundw
            case rel => exact ⟨k + 1, r, by omega, by go_num, rfl, by omega, by have := HLe.out; omega, fun i hi => by
              by_cases hik : i < k
              · exact HAll.out i hik
              · obtain rfl : i = k := by omega
                have := HEn.out; have := HLe.out; omega, by first | rfl | trivial⟩
            case measure => simp [intOf]; omega
      · have hkn : k = n := by omega
        subst hkn
        go_wp2_with fail
        go_ret
        exact ⟨L, rfl, hL1, fun _ => ⟨by omega, HAll.out⟩, rfl⟩

set_option maxHeartbeats 800000 in
theorem szBoolSS_any (a : Option Addr) (n cap : Nat) (xs : List (List Bool)) (left : Int) (w : World) {lo hi : Nat} (h : RFF lo hi w a n cap xs) (h0 : 0 ≤ left) (h1 : left ≤ 1048576) :
    Calls Tryz.prog 19 #[.slice a n cap, .int .i64 left] w fun e w' => ∃ r : Int, e = .returned (.int .i64 r) ∧ r ≤ left ∧ (¬ r < 0 → n ≤ 1048576 ∧ ∀ i, i < n → (xs.getD i []).length ≤ 1048576) ∧ w' = w := by
  have HR : Hid (RFF lo hi w a n cap xs) := h
  obtain ⟨hl, ⟨hm, hM⟩, hcs⟩ := h
  clear hcs hl
  by_cases hbig : left < n
  · go_enter Tryz.func19, Tryz.ntmps19
    go_wp2_with fail
    go_ret
    exact ⟨-1, rfl, by omega, fun hh => by omega, rfl⟩
  · go_enter Tryz.func19, Tryz.ntmps19
    go_wp2_with fail
    go_loopw [1, 5] (fun l i wr => ∃ (k : Nat) (L : Int), k ≤ n ∧ i = .int .i64 k ∧ l = .int .i64 L ∧ 0 ≤ L ∧ L ≤ left ∧ (∀ i, i < k → (xs.getD i []).length ≤ 1048576) ∧ wr = w) (fun _ i _ => n - (intOf i).toNat)
    case atStart => exact ⟨0, left - n, Nat.zero_le _, rfl, by go_num, by omega, by omega, fun i hi => by omega, rfl⟩
    case round =>
      obtain ⟨k, L, hk, rfl, rfl, hL0, hL1, hall, rfl⟩ := hrel
      have HAll : Hid (∀ i, i < k → (xs.getD i []).length ≤ 1048576) := hall
      clear hall
      by_cases hlt : k < n
      · rcases HR.out.cells with hz | ⟨b, off, e1, _, _, hc⟩
        · omega
        · subst e1
          obtain ⟨v, c0, ea, en, ec, rfl, hr⟩ := hc k hlt
          have hki : (k : Int) < (n : Int) := by omega
          have hen : (xs.getD k []).length = en := hr.len
          have hef := hr.fits
          obtain ⟨r, hrr⟩ : ∃ r, r = szRes L en := ⟨_, rfl⟩
          have HRR : Hid (r = szRes L en) := hrr
          have HEn : Hid ((xs.getD k []).length = en) := hen
          clear hc hr hrr hen
          go_wp2_with fail
          refine (szBoolS_any ea en ec L wr ⟨hL0, by omega⟩ (by omega)).mono ?_
          rintro e w' ⟨rfl, hw'⟩
          rw [← HRR.out, hw']
          clear hw'
          by_cases hneg : r < 0
          · go_wp2_with fail
            go_ret
            exact ⟨-1, rfl, by omega, fun hh => by omega, rfl⟩
          · have HLe : Hid (r = L - en ∧ (en : Int) ≤ L) := by
              have e := HRR.out
              unfold szRes at e
              split at e
              · omega
              · exact ⟨e, by omega⟩
            go_wp2_with fail
            go_roundw
            case rel => exact ⟨k + 1, r, by omega, by go_num, rfl, by omega, by have := HLe.out; omega, fun i hi => by
              by_cases hik : i < k
              · exact HAll.out i hik
              · obtain rfl : i = k := by omega
                have := HEn.out; have := HLe.out; omega, by first | rfl | trivial⟩
            case measure => simp [intOf]; omega
      · have hkn : k = n := by omega
        subst hkn
        go_wp2_with fail
        go_ret
        exact ⟨L, rfl, hL1, fun _ => ⟨by omega, HAll.out⟩, rfl⟩

set_option maxHeartbeats 800000 in
theorem eqBoolS_any (a a' : Option Addr) (n cap cap' : Nat) (xs : List Bool) (w : World) {lo hi lo' hi' : Nat} (h : RB lo hi w a n cap xs) (h' : RB lo' hi' w a' n cap' xs) :
    Calls Tryz.prog 76 #[.slice a n cap, .slice a' n cap'] w fun e w' => e = .returned (.bool true) ∧ ∃ nd, w' = w.drewN nd := by
  have HR : Hid (RB lo hi w a n cap xs) := h
  have HR' : Hid (RB lo' hi' w a' n cap' xs) := h'
  obtain ⟨hl, ⟨hm, hM⟩, hcs⟩ := h
  obtain ⟨hl', ⟨hm', hM'⟩, hcs'⟩ := h'
  have hb0 : ((n : Int) != (n : Int)) = false := by simp
  clear hcs hcs' hl hl'
  go_enter Tryz.func76, Tryz.ntmps76
  go_wp2_with fail
  go_loopw [5] (fun i wr => ∃ k : Nat, k ≤ n ∧ i = .int .i64 k ∧ ∃ nd, wr = w.drewN nd) (fun i _ => n - (intOf i).toNat)
  case atStart => exact ⟨0, Nat.zero_le _, rfl, 0, rfl⟩
  case round =>
    obtain ⟨k, hk, rfl, nd, hwr⟩ := hrel
    subst hwr
    by_cases hlt : k < n
    · rcases HR.out.cells with h0 | ⟨b1, off1, e1, _, _, hc1⟩
      · omega
      · rcases HR'.out.cells with h0 | ⟨b2, off2, e2, _, _, hc2⟩
        · omega
        · subst e1 e2
          obtain ⟨v, c0, hv⟩ := hc1 k hlt
          obtain ⟨v', c0', hv'⟩ := hc2 k hlt
          obtain ⟨z, hz⟩ : ∃ z, z = xs.getD k false := ⟨_, rfl⟩
          rw [← hz] at hv hv'
          subst hv hv'
          have hzz : (z != z) = false := by simp
          have hki : (k : Int) < (n : Int) := by omega
          clear hc1 hc2 hz
          go_wp2
          go_quiet (fail)
          go_wp2
          go_roundw
          case rel => exact ⟨k + 1, by omega, by go_num, nd + nq, by first | rfl | exact drew_add _ _ _⟩
          case measure => simp [intOf]; omega
    · go_wp2_with fail
      go_ret
      exact ⟨rfl, nd, rfl⟩

set_option maxHeartbeats 800000 in
theorem eqIntS_any (a a' : Option Addr) (n cap cap' : Nat) (xs : List Int) (w : World) {lo hi lo' hi' : Nat} (h : RI lo hi w a n cap xs) (h' : RI lo' hi' w a' n cap' xs) :
    Calls Tryz.prog 36 #[.slice a n cap, .slice a' n cap'] w fun e w' => e = .returned (.bool true) ∧ ∃ nd, w' = w.drewN nd := by
  have HR : Hid (RI lo hi w a n cap xs) := h
  have HR' : Hid (RI lo' hi' w a' n cap' xs) := h'
  obtain ⟨hl, ⟨hm, hM⟩, hcs⟩ := h
  obtain ⟨hl', ⟨hm', hM'⟩, hcs'⟩ := h'
  have hb0 : ((n : Int) != (n : Int)) = false := by simp
  clear hcs hcs' hl hl'
  go_enter Tryz.func36, Tryz.ntmps36
  go_wp2_with fail
  go_loopw [5] (fun i wr => ∃ k : Nat, k ≤ n ∧ i = .int .i64 k ∧ ∃ nd, wr = w.drewN nd) (fun i _ => n - (intOf i).toNat)
  case atStart => exact ⟨0, Nat.zero_le _, rfl, 0, rfl⟩
  case round =>
    obtain ⟨k, hk, rfl, nd, hwr⟩ := hrel
    subst hwr
    by_cases hlt : k < n
    · rcases HR.out.cells with h0 | ⟨b1, off1, e1, _, _, hc1⟩
      · omega
      · rcases HR'.out.cells with h0 | ⟨b2, off2, e2, _, _, hc2⟩
        · omega
        · subst e1 e2
          obtain ⟨v, c0, hv⟩ := hc1 k hlt
          obtain ⟨v', c0', hv'⟩ := hc2 k hlt
          obtain ⟨z, hz⟩ : ∃ z, z = xs.getD k 0 := ⟨_, rfl⟩
          rw [← hz] at hv hv'
          subst hv hv'
          have hzz : (z != z) = false := by simp
          have hki : (k : Int) < (n : Int) := by omega
          clear hc1 hc2 hz
          go_wp2
          go_quiet (fail)
          go_wp2
          go_roundw
          case rel => exact ⟨k + 1, by omega, by go_num, nd + nq, by first | rfl | exact drew_add _ _ _⟩
          case measure => simp [intOf]; omega
    · go_wp2_with fail
      go_ret
      exact ⟨rfl, nd, rfl⟩

set_option maxHeartbeats 800000 in
theorem eqByteSS_any (a a' : Option Addr) (n cap cap' : Nat) (xs : List (List Int)) (w : World) {lo hi lo' hi' : Nat} (h : RSS lo hi w a n cap xs) (h' : RSS lo' hi' w a' n cap' xs) (hh : hi ≤ w.heap.size) (hh' : hi' ≤ w.heap.size) :
    Calls Tryz.prog 34 #[.slice a n cap, .slice a' n cap'] w fun e w' => e = .returned (.bool true) ∧ Below w.heap.size w w' := by
  have HR : Hid (RSS lo hi w a n cap xs) := h
  have HR' : Hid (RSS lo' hi' w a' n cap' xs) := h'
  obtain ⟨hl, ⟨hm, hM⟩, hcs⟩ := h
  obtain ⟨hl', ⟨hm', hM'⟩, hcs'⟩ := h'
  have hb0 : ((n : Int) != (n : Int)) = false := by simp
  clear hcs hcs' hl hl'
  go_enter Tryz.func34, Tryz.ntmps34
  go_wp2_with fail
  go_loopw [5] (fun i wr => ∃ k : Nat, k ≤ n ∧ i = .int .i64 k ∧ Below w.heap.size w wr) (fun i _ => n - (intOf i).toNat)
  case atStart => exact ⟨0, Nat.zero_le _, rfl, Below.refl _ _⟩
  case round =>
    obtain ⟨k, hk, rfl, hbel⟩ := hrel
    have HB : Hid (Below w.heap.size w wr) := hbel
    by_cases hlt : k < n
    · have h1 := HR.out.below hbel hh
      have h2 := HR'.out.below hbel hh'
      rcases h1.cells with h0 | ⟨b1, off1, e1, _, _, hc1⟩
      · omega
      · rcases h2.cells with h0 | ⟨b2, off2, e2, _, _, hc2⟩
        · omega
        · subst e1 e2
          obtain ⟨v, c0, ea, en, ec, rfl, hr⟩ := hc1 k hlt
          obtain ⟨v', c0', xa, xn, xc, rfl, hr'⟩ := hc2 k hlt
          have HK := hr.same (w' := wr.drew) (fun _ _ _ => rfl)
          have HK' := hr'.same (w' := wr.drew) (fun _ _ _ => rfl)
          have HK1 : Hid _ := HK
          have HK1' : Hid _ := HK'
          have hki : (k : Int) < (n : Int) := by omega
          clear h1 h2 hc1 hc2 hr hr' hbel HK HK'
          go_wp2_with fail
          go_region_with (go_at_call 38; refine (eqByteS_any ea xa en ec xn xc (xs.getD k []) (xs.getD k []) _ (lo := lo) (hi := hi) (lo' := lo') (hi' := hi') ?_ ?_).mono ?_; exact HK1.out; exact HK1'.out; rintro e w' ⟨rfl, nd, hwn⟩; rw [show decide (xs.getD k [] = xs.getD k []) = true from by simp]; have hbe : Below wr.heap.size wr w' := (by rw [hwn]; exact below_drewN ((Below.refl _ _).drew) nd); clear hwn)
          all_goals
            go_wp2_with fail
            go_roundw
            case rel => exact ⟨k + 1, by omega, by go_num, HB.out.trans (hbe.mono HB.out.size)⟩
            case measure => simp [intOf]; omega
    · clear hbel
      go_wp2_with fail
      go_ret
      exact ⟨rfl, HB.out⟩

set_option maxHeartbeats 800000 in
theorem eqBoolSS_any (a a' : Option Addr) (n cap cap' : Nat) (xs : List (List Bool)) (w : World) {lo hi lo' hi' : Nat} (h : RFF lo hi w a n cap xs) (h' : RFF lo' hi' w a' n cap' xs) (hh : hi ≤ w.heap.size) (hh' : hi' ≤ w.heap.size) :
    Calls Tryz.prog 35 #[.slice a n cap, .slice a' n cap'] w fun e w' => e = .returned (.bool true) ∧ Below w.heap.size w w' := by
  have HR : Hid (RFF lo hi w a n cap xs) := h
  have HR' : Hid (RFF lo' hi' w a' n cap' xs) := h'
  obtain ⟨hl, ⟨hm, hM⟩, hcs⟩ := h
  obtain ⟨hl', ⟨hm', hM'⟩, hcs'⟩ := h'
  have hb0 : ((n : Int) != (n : Int)) = false := by simp
  clear hcs hcs' hl hl'
  go_enter Tryz.func35, Tryz.ntmps35
  go_wp2_with fail
  go_loopw [5] (fun i wr => ∃ k : Nat, k ≤ n ∧ i = .int .i64 k ∧ Below w.heap.size w wr) (fun i _ => n - (intOf i).toNat)
  case atStart => exact ⟨0, Nat.zero_le _, rfl, Below.refl _ _⟩
  case round =>
    obtain ⟨k, hk, rfl, hbel⟩ := hrel
    have HB : Hid (Below w.heap.size w wr) := hbel
    by_cases hlt : k < n
    · have h1 := HR.out.below hbel hh
      have h2 := HR'.out.below hbel hh'
      rcases h1.cells with h0 | ⟨b1, off1, e1, _, _, hc1⟩
      · omega
      · rcases h2.cells with h0 | ⟨b2, off2, e2, _, _, hc2⟩
        · omega
        · subst e1 e2
          obtain ⟨v, c0, ea, en, ec, rfl, hr⟩ := hc1 k hlt
          obtain ⟨v', c0', xa, xn, xc, rfl, hr'⟩ := hc2 k hlt
          have hxe : xn = en := by have h1 := hr.len; have h2 := hr'.len; omega
          subst hxe
          have HK := hr.same (w' := wr.drew) (fun _ _ _ => rfl)
          have HK' := hr'.same (w' := wr.drew) (fun _ _ _ => rfl)
          have HK1 : Hid _ := HK
          have HK1' : Hid _ := HK'
          have hki : (k : Int) < (n : Int) := by omega
          clear h1 h2 hc1 hc2 hr hr' hbel HK HK'
          go_wp2_with fail
          go_region_with (go_at_call 76; refine (eqBoolS_any ea xa xn ec xc (xs.getD k []) _ (lo := lo) (hi := hi) (lo' := lo') (hi' := hi') ?_ ?_).mono ?_; exact HK1.out; exact HK1'.out; rintro e w' ⟨rfl, nd, hwn⟩; have hbe : Below wr.heap.size wr w' := (by rw [hwn]; exact below_drewN ((Below.refl _ _).drew) nd); clear hwn)
          all_goals
            go_wp2_with fail
            go_roundw
            case rel => exact ⟨k + 1, by omega, by go_num, HB.out.trans (hbe.mono HB.out.size)⟩
            case measure => simp [intOf]; omega
    · clear hbel
      go_wp2_with fail
      go_ret
      exact ⟨rfl, HB.out⟩
end

section
open Go.RowKit

def partV (z : Value) (f : Nat → Value) (k i : Nat) : Value := if i < k then f i else z

theorem partV_step {w : World} {g t n : Nat} {z : Value} {f : Nat → Value} {k : Nat} (v : Value) (h : w.rowIs g t n (partV z f k)) : (w.setCell ⟨g, k, none⟩ v).rowIs g t n (partV z (fun i => if i = k then v else f i) (k + 1)) := by
  refine (h.set k _).congr fun i _ => ?_
  unfold partV
  by_cases e : i = k
  · subst e; simp
  · rw [if_neg e]
    by_cases h1 : i < k
    · rw [if_pos h1, if_pos (by omega)]; show f i = if i = k then v else f i; rw [if_neg e]
    · rw [if_neg h1, if_neg (by omega)]

theorem rowIs_block {w w' : World} {g t n : Nat} {f : Nat → Value} (h : w.rowIs g t n f) (e : w'.heap[g]? = w.heap[g]?) : w'.rowIs g t n f := by
  obtain ⟨c, h1, h2⟩ := h
  exact ⟨c, e.trans h1, h2⟩

theorem rowIs_lt {w : World} {g t n : Nat} {f : Nat → Value} (h : w.rowIs g t n f) : g < w.heap.size := by
  obtain ⟨c, h1, _⟩ := h
  exact (Array.getElem?_eq_some_iff.1 h1).1

theorem Tryz.info4w : (Tryz.prog.info? 4).map (fun i => (i.zero, i.size, i.bytes)) = some (some (.bool false), 1, 1) := by kernel_rfl

set_option maxHeartbeats 800000 in
theorem toBoolS_any (a : Option Addr) (n cap : Nat) (xs : List Bool) (w : World) {lo hi : Nat} (h : RB lo hi w a n cap xs) (hhi : hi ≤ w.heap.size) (hn : n ≤ 1048576) :
    Calls Tryz.prog 58 #[.slice a n cap] w fun e w' => e = .returned (.slice (some ⟨w.heap.size, 0, none⟩) n n) ∧ RB w.heap.size (w.heap.size + 1) w' (some ⟨w.heap.size, 0, none⟩) n n xs ∧ Below w.heap.size w w' ∧ w'.heap.size = w.heap.size + 1 := by
  obtain ⟨hl, ⟨hm, _⟩, hc⟩ := h
  have hmk := fun w : World => run_make_row' (P := Tryz.prog) 87 4 (.bool false) 1 Tryz.underlying87 Tryz.info4w rfl .i64 .i64 n (by omega) (by omega) w
  have HL : Hid (xs.length = n) := hl
  have HCell : Hid (∀ k, k < n → ∃ b off, a = some ⟨b, off, none⟩ ∧ b < w.heap.size ∧ w.cell? ⟨b, off + k, none⟩ = some (.bool (xs.getD k false))) := by
    intro k hk
    rcases hc with h0 | ⟨b, off, e, _, hb, hcs⟩
    · omega
    · obtain ⟨v, hv, rfl⟩ := hcs k hk
      exact ⟨b, off, e, by omega, hv⟩
  have h0 : Hid ((w.alloc (.cells (madeCells #[(.bool false)] n) 4)).rowIs w.heap.size 4 n (partV (.bool false) (fun i => (.bool (xs.getD i false))) 0)) := (World.rowIs_made w (.bool false) n 4).congr (fun i _ => by simp [partV])
  clear hc hl
  go_enter Tryz.func58, Tryz.ntmps58
  go_wp2
  go_loopw [4] (fun i wr => ∃ k : Nat, k ≤ n ∧ i = .int .i64 k ∧ wr.rowIs w.heap.size 4 n (partV (.bool false) (fun i => (.bool (xs.getD i false))) k) ∧ Below w.heap.size w wr ∧ wr.heap.size = w.heap.size + 1) (fun i _ => n - (intOf i).toNat)
  case atStart => exact ⟨0, Nat.zero_le _, rfl, h0.out, (Below.refl _ _).alloc (Nat.le_refl _) _, by simp⟩
  case round =>
    obtain ⟨k, hk, rfl, hrow, hbel, hsz⟩ := hrel
    by_cases hlt : k < n
    · obtain ⟨b, off, ha, hb, hcell⟩ := HCell.out k hlt
      subst ha
      obtain ⟨c, hcc⟩ : ∃ c, c = xs.getD k false := ⟨_, rfl⟩
      have HC : Hid (c = xs.getD k false) := hcc
      rw [← hcc] at hcell
      have hck : wr.cell? ⟨b, off + k, none⟩ = some (.bool (c)) := by rw [hbel.cell (p := ⟨b, off + k, none⟩) hb]; exact hcell
      have hfz := hrow.frozen k
      have hold : wr.cell? ⟨w.heap.size, k, none⟩ = some (.bool false) := by have := hrow.cell hlt; simpa [partV] using this
      have HR : Hid ((wr.setCell ⟨w.heap.size, k, none⟩ (.bool (c))).rowIs w.heap.size 4 n (partV (.bool false) (fun i => (.bool (xs.getD i false))) (k + 1))) := by
        refine (partV_step _ hrow).congr fun i _ => ?_
        unfold partV
        by_cases e : i = k
        · subst e; rw [HC.out]; simp
        · simp [e]
      have HB : Hid (Below w.heap.size w (wr.setCell ⟨w.heap.size, k, none⟩ (.bool (c)))) := hbel.setCell (Nat.le_refl _) _
      have hki : (k : Int) < (n : Int) := by omega
      clear hrow hbel hcc hcell
      go_wp2
      go_roundw
      case rel => exact ⟨k + 1, by omega, by go_num, HR.out, HB.out, by simpa using hsz⟩
      case measure => simp [intOf]; omega
    · have hkn : k = n := by omega
      have HRd : Hid (RB w.heap.size (w.heap.size + 1) wr (some ⟨w.heap.size, 0, none⟩) n n xs) := by
        refine ⟨HL.out, ⟨Nat.le_refl _, by omega⟩, .inr ⟨w.heap.size, 0, rfl, Nat.le_refl _, Nat.lt_succ_self _, fun i hi => ⟨_, ?_, rfl⟩⟩⟩
        have := hrow.cell hi
        rw [Nat.zero_add, this]
        simp [partV, hkn, hi]
      have HB : Hid (Below w.heap.size w wr) := hbel
      clear hrow hbel hkn
      go_wp2
      go_ret
      exact ⟨rfl, HRd.out, HB.out, hsz⟩

theorem Tryz.info3w : (Tryz.prog.info? 3).map (fun i => (i.zero, i.size, i.bytes)) = some (some (.int .i64 0), 1, 8) := by kernel_rfl

set_option maxHeartbeats 800000 in
theorem toIntS_any (a : Option Addr) (n cap : Nat) (xs : List Int) (w : World) {lo hi : Nat} (h : RI lo hi w a n cap xs) (hhi : hi ≤ w.heap.size) (hn : n ≤ 1048576) :
    Calls Tryz.prog 28 #[.slice a n cap] w fun e w' => e = .returned (.slice (some ⟨w.heap.size, 0, none⟩) n n) ∧ RI w.heap.size (w.heap.size + 1) w' (some ⟨w.heap.size, 0, none⟩) n n xs ∧ Below w.heap.size w w' ∧ w'.heap.size = w.heap.size + 1 := by
  obtain ⟨hl, ⟨hm, _⟩, hc⟩ := h
  have hmk := fun w : World => run_make_row' (P := Tryz.prog) 24 3 (.int .i64 0) 8 Tryz.underlying24 Tryz.info3w rfl .i64 .i64 n (by omega) (by omega) w
  have HL : Hid (xs.length = n) := hl
  have HCell : Hid (∀ k, k < n → ∃ b off, a = some ⟨b, off, none⟩ ∧ b < w.heap.size ∧ w.cell? ⟨b, off + k, none⟩ = some (.int .i64 (xs.getD k 0))) := by
    intro k hk
    rcases hc with h0 | ⟨b, off, e, _, hb, hcs⟩
    · omega
    · obtain ⟨v, hv, rfl⟩ := hcs k hk
      exact ⟨b, off, e, by omega, hv⟩
  have h0 : Hid ((w.alloc (.cells (madeCells #[(.int .i64 0)] n) 3)).rowIs w.heap.size 3 n (partV (.int .i64 0) (fun i => (.int .i64 (xs.getD i 0))) 0)) := (World.rowIs_made w (.int .i64 0) n 3).congr (fun i _ => by simp [partV])
  clear hc hl
  go_enter Tryz.func28, Tryz.ntmps28
  go_wp2
  go_loopw [4] (fun i wr => ∃ k : Nat, k ≤ n ∧ i = .int .i64 k ∧ wr.rowIs w.heap.size 3 n (partV (.int .i64 0) (fun i => (.int .i64 (xs.getD i 0))) k) ∧ Below w.heap.size w wr ∧ wr.heap.size = w.heap.size + 1) (fun i _ => n - (intOf i).toNat)
  case atStart => exact ⟨0, Nat.zero_le _, rfl, h0.out, (Below.refl _ _).alloc (Nat.le_refl _) _, by simp⟩
  case round =>
    obtain ⟨k, hk, rfl, hrow, hbel, hsz⟩ := hrel
    by_cases hlt : k < n
    · obtain ⟨b, off, ha, hb, hcell⟩ := HCell.out k hlt
      subst ha
      obtain ⟨c, hcc⟩ : ∃ c, c = xs.getD k 0 := ⟨_, rfl⟩
      have HC : Hid (c = xs.getD k 0) := hcc
      rw [← hcc] at hcell
      have hck : wr.cell? ⟨b, off + k, none⟩ = some (.int .i64 (c)) := by rw [hbel.cell (p := ⟨b, off + k, none⟩) hb]; exact hcell
      have hfz := hrow.frozen k
      have hold : wr.cell? ⟨w.heap.size, k, none⟩ = some (.int .i64 0) := by have := hrow.cell hlt; simpa [partV] using this
      have HR : Hid ((wr.setCell ⟨w.heap.size, k, none⟩ (.int .i64 (c))).rowIs w.heap.size 3 n (partV (.int .i64 0) (fun i => (.int .i64 (xs.getD i 0))) (k + 1))) := by
        refine (partV_step _ hrow).congr fun i _ => ?_
        unfold partV
        by_cases e : i = k
        · subst e; rw [HC.out]; simp
        · simp [e]
      have HB : Hid (Below w.heap.size w (wr.setCell ⟨w.heap.size, k, none⟩ (.int .i64 (c)))) := hbel.setCell (Nat.le_refl _) _
      have hki : (k : Int) < (n : Int) := by omega
      clear hrow hbel hcc hcell
      go_wp2
      go_roundw
      case rel => exact ⟨k + 1, by omega, by go_num, HR.out, HB.out, by simpa using hsz⟩
      case measure => simp [intOf]; omega
    · have hkn : k = n := by omega
      have HRd : Hid (RI w.heap.size (w.heap.size + 1) wr (some ⟨w.heap.size, 0, none⟩) n n xs) := by
        refine ⟨HL.out, ⟨Nat.le_refl _, by omega⟩, .inr ⟨w.heap.size, 0, rfl, Nat.le_refl _, Nat.lt_succ_self _, fun i hi => ⟨_, ?_, rfl⟩⟩⟩
        have := hrow.cell hi
        rw [Nat.zero_add, this]
        simp [partV, hkn, hi]
      have HB : Hid (Below w.heap.size w wr) := hbel
      clear hrow hbel hkn
      go_wp2
      go_ret
      exact ⟨rfl, HRd.out, HB.out, hsz⟩

theorem Tryz.infotoByteSS : (Tryz.prog.info? 27).map (fun i => (i.zero, i.size, i.bytes)) = some (some (.slice none 0 0), 1, 24) := by kernel_rfl

set_option maxHeartbeats 1600000 in
theorem toByteSS_any (a : Option Addr) (n cap : Nat) (xs : List (List Int)) (w : World) {lo hi : Nat} (h : RSS lo hi w a n cap xs) (hhi : hi ≤ w.heap.size) (hn : n ≤ 1048576) (hln : ∀ i, i < n → (xs.getD i []).length ≤ 1048576) :
    Calls Tryz.prog 26 #[.slice a n cap] w fun e w' => e = .returned (.slice (some ⟨w.heap.size, 0, none⟩) n n) ∧ RSS w.heap.size w'.heap.size w' (some ⟨w.heap.size, 0, none⟩) n n xs ∧ Below w.heap.size w w' := by
  have HR0 : Hid (RSS lo hi w a n cap xs) := h
  obtain ⟨hl, ⟨hm, _⟩, _⟩ := h
  have hmk := fun w : World => run_make_row' (P := Tryz.prog) 22 27 (.slice none 0 0) 24 Tryz.underlying22 Tryz.infotoByteSS rfl .i64 .i64 n (by omega) (by omega) w
  have HL : Hid (xs.length = n) := hl
  have h0 : Hid ((w.alloc (.cells (madeCells #[(.slice none 0 0)] n) 27)).rowIs w.heap.size 27 n (partV (.slice none 0 0) (fun _ => (.slice none 0 0)) 0)) := (World.rowIs_made w (.slice none 0 0) n 27).congr (fun i _ => by simp [partV])
  have HLn0 : Hid (∀ i, i < n → (xs.getD i []).length ≤ 1048576) := hln
  clear hl hln
  go_enter Tryz.func26, Tryz.ntmps26
  go_wp2_with fail
  go_loopw [4] (fun i wr => ∃ (k : Nat) (V : Nat → Value), k ≤ n ∧ i = .int .i64 k ∧ wr.rowIs w.heap.size 27 n (partV (.slice none 0 0) V k) ∧ (∀ j, j < k → SlB (w.heap.size + 1) wr.heap.size wr (V j) (xs.getD j [])) ∧ Below w.heap.size w wr ∧ w.heap.size + 1 ≤ wr.heap.size) (fun i _ => n - (intOf i).toNat)
  case atStart => exact ⟨0, _, Nat.zero_le _, rfl, h0.out, fun j hj => by omega, (Below.refl _ _).alloc (Nat.le_refl _) _, by simp⟩
  case round =>
    obtain ⟨k, V, hk, rfl, hrow, hkids, hbel, hsz⟩ := hrel
    have HB : Hid (Below w.heap.size w wr) := hbel
    have HRow : Hid (wr.rowIs w.heap.size 27 n (partV (.slice none 0 0) V k)) := hrow
    have HKids : Hid (∀ j, j < k → SlB (w.heap.size + 1) wr.heap.size wr (V j) (xs.getD j [])) := hkids
    by_cases hlt : k < n
    · have hR := HR0.out.below hbel hhi
      rcases hR.cells with hz | ⟨b, off, e1, _, hbhi, hc⟩
      · omega
      · subst e1
        obtain ⟨v, c0, ea, en, ec, rfl, hr0⟩ := hc k hlt
        have hr : Hid (Rd lo hi wr ea en ec (xs.getD k [])) := hr0
        have hki : (k : Int) < (n : Int) := by omega
        have HLn : Hid (∀ i, i < n → en ≤ 1048576) := by intro i hi; have := HLn0.out k hlt; rw [hr0.len] at this; exact this
        clear hR hc hr0 hrow hkids hbel
        go_wp2_with fail
        refine (toByteS_one ea en ec (xs.getD k []) wr hr.out (Nat.le_trans hhi HB.out.size) (HLn.out k hlt)).mono ?_
        rintro e w' ⟨rfl, hrow', hb', hs'⟩
        have HNew : Hid (SlB wr.heap.size w'.heap.size w' (.slice (some ⟨wr.heap.size, 0, none⟩) en en) (xs.getD k [])) := ⟨_, _, _, rfl, hrow'.rd hr.out.len hr.out.byte (by have := HLn.out k hlt; omega) (Nat.le_refl _) hrow'.lt⟩
        have hrow2 : w'.rowIs w.heap.size 27 n (partV (.slice none 0 0) V k) := rowIs_block HRow.out (hb'.block _ (rowIs_lt HRow.out))
        have hfz := hrow2.frozen k
        have hold : w'.cell? ⟨w.heap.size, k, none⟩ = some (.slice none 0 0) := by have := hrow2.cell hlt; simpa [partV] using this
        obtain ⟨U, hU⟩ : ∃ U, U = w'.setCell ⟨w.heap.size, k, none⟩ (.slice (some ⟨wr.heap.size, 0, none⟩) en en) := ⟨_, rfl⟩
        have HU : Hid (U = w'.setCell ⟨w.heap.size, k, none⟩ (.slice (some ⟨wr.heap.size, 0, none⟩) en en)) := hU
        have hsU : U.heap.size = w'.heap.size := by rw [hU]; simp
        have hsm : Same (w.heap.size + 1) w'.heap.size w' U := by rw [hU]; exact fun b h1 _ => Below.heap_setCell w' ⟨w.heap.size, k, none⟩ _ b (by show b ≠ w.heap.size; omega)
        have HR2 : Hid (U.rowIs w.heap.size 27 n (partV (.slice none 0 0) (fun i => if i = k then .slice (some ⟨wr.heap.size, 0, none⟩) en en else V i) (k + 1))) := by unfold Hid; rw [hU]; exact partV_step _ hrow2
        have HB2 : Hid (Below w.heap.size w U) := by unfold Hid; rw [hU]; exact (HB.out.trans (hb'.mono HB.out.size)).setCell (Nat.le_refl _) _
        have HK2 : Hid (∀ j, j < k + 1 → SlB (w.heap.size + 1) U.heap.size U (if j = k then .slice (some ⟨wr.heap.size, 0, none⟩) en en else V j) (xs.getD j [])) := by
          intro j hj
          rw [hsU]
          by_cases e : j = k
          · subst e
            rw [if_pos rfl]
            exact (HNew.out.mono (by omega) (Nat.le_refl _)).same hsm
          · rw [if_neg e]
            exact (((HKids.out j (by omega)).same (Same.of_below hb' (Nat.le_refl _))).mono (Nat.le_refl _) hb'.size).same hsm
        have hsz2 : w.heap.size + 1 ≤ U.heap.size := by have := hb'.size; omega
        clear hrow' hb' hrow2 hsm hU
        go_wp2_with fail
        rw [← HU.out]
        go_roundw
        case rel => exact ⟨k + 1, _, by omega, by go_num, HR2.out, HK2.out, HB2.out, hsz2⟩
        case measure => simp [intOf]; omega
    · have hkn : k = n := by omega
      have HRd : Hid (RSS w.heap.size wr.heap.size wr (some ⟨w.heap.size, 0, none⟩) n n xs) := by
        refine ⟨HL.out, ⟨Nat.le_refl _, by omega⟩, .inr ⟨w.heap.size, 0, rfl, Nat.le_refl _, by omega, fun i hi => ⟨V i, ?_, (HKids.out i (by omega)).mono (by omega) (Nat.le_refl _)⟩⟩⟩
        have := HRow.out.cell hi
        rw [Nat.zero_add, this]
        simp [partV, hkn, hi]
      clear hrow hkids hbel hkn
      go_wp2_with fail
      go_ret
      exact ⟨rfl, HRd.out, HB.out⟩

theorem Tryz.infotoBoolSS : (Tryz.prog.info? 87).map (fun i => (i.zero, i.size, i.bytes)) = some (some (.slice none 0 0), 1, 24) := by kernel_rfl

set_option maxHeartbeats 1600000 in
theorem toBoolSS_any (a : Option Addr) (n cap : Nat) (xs : List (List Bool)) (w : World) {lo hi : Nat} (h : RFF lo hi w a n cap xs) (hhi : hi ≤ w.heap.size) (hn : n ≤ 1048576) (hln : ∀ i, i < n → (xs.getD i []).length ≤ 1048576) :
    Calls Tryz.prog 27 #[.slice a n cap] w fun e w' => e = .returned (.slice (some ⟨w.heap.size, 0, none⟩) n n) ∧ RFF w.heap.size w'.heap.size w' (some ⟨w.heap.size, 0, none⟩) n n xs ∧ Below w.heap.size w w' := by
  have HR0 : Hid (RFF lo hi w a n cap xs) := h
  obtain ⟨hl, ⟨hm, _⟩, _⟩ := h
  have hmk := fun w : World => run_make_row' (P := Tryz.prog) 23 87 (.slice none 0 0) 24 Tryz.underlying23 Tryz.infotoBoolSS rfl .i64 .i64 n (by omega) (by omega) w
  have HL : Hid (xs.length = n) := hl
  have h0 : Hid ((w.alloc (.cells (madeCells #[(.slice none 0 0)] n) 87)).rowIs w.heap.size 87 n (partV (.slice none 0 0) (fun _ => (.slice none 0 0)) 0)) := (World.rowIs_made w (.slice none 0 0) n 87).congr (fun i _ => by simp [partV])
  have HLn0 : Hid (∀ i, i < n → (xs.getD i []).length ≤ 1048576) := hln
  clear hl hln
  go_enter Tryz.func27, Tryz.ntmps27
  go_wp2_with fail
  go_loopw [4] (fun i wr => ∃ (k : Nat) (V : Nat → Value), k ≤ n ∧ i = .int .i64 k ∧ wr.rowIs w.heap.size 87 n (partV (.slice none 0 0) V k) ∧ (∀ j, j < k → SlF (w.heap.size + 1) wr.heap.size wr (V j) (xs.getD j [])) ∧ Below w.heap.size w wr ∧ w.heap.size + 1 ≤ wr.heap.size) (fun i _ => n - (intOf i).toNat)
  case atStart => exact ⟨0, _, Nat.zero_le _, rfl, h0.out, fun j hj => by omega, (Below.refl _ _).alloc (Nat.le_refl _) _, by simp⟩
  case round =>
    obtain ⟨k, V, hk, rfl, hrow, hkids, hbel, hsz⟩ := hrel
    have HB : Hid (Below w.heap.size w wr) := hbel
    have HRow : Hid (wr.rowIs w.heap.size 87 n (partV (.slice none 0 0) V k)) := hrow
    have HKids : Hid (∀ j, j < k → SlF (w.heap.size + 1) wr.heap.size wr (V j) (xs.getD j [])) := hkids
    by_cases hlt : k < n
    · have hR := HR0.out.below hbel hhi
      rcases hR.cells with hz | ⟨b, off, e1, _, hbhi, hc⟩
      · omega
      · subst e1
        obtain ⟨v, c0, ea, en, ec, rfl, hr0⟩ := hc k hlt
        have hr : Hid (RB lo hi wr ea en ec (xs.getD k [])) := hr0
        have hki : (k : Int) < (n : Int) := by omega
        have HLn : Hid (∀ i, i < n → en ≤ 1048576) := by intro i hi; have := HLn0.out k hlt; rw [hr0.len] at this; exact this
        clear hR hc hr0 hrow hkids hbel
        go_wp2_with fail
        refine (toBoolS_any ea en ec (xs.getD k []) wr hr.out (Nat.le_trans hhi HB.out.size) (HLn.out k hlt)).mono ?_
        rintro e w' ⟨rfl, hrow', hb', hs'⟩
        have HNew : Hid (SlF wr.heap.size w'.heap.size w' (.slice (some ⟨wr.heap.size, 0, none⟩) en en) (xs.getD k [])) := ⟨_, _, _, rfl, hrow'.mono (Nat.le_refl _) (by omega)⟩
        have hrow2 : w'.rowIs w.heap.size 87 n (partV (.slice none 0 0) V k) := rowIs_block HRow.out (hb'.block _ (rowIs_lt HRow.out))
        have hfz := hrow2.frozen k
        have hold : w'.cell? ⟨w.heap.size, k, none⟩ = some (.slice none 0 0) := by have := hrow2.cell hlt; simpa [partV] using this
        obtain ⟨U, hU⟩ : ∃ U, U = w'.setCell ⟨w.heap.size, k, none⟩ (.slice (some ⟨wr.heap.size, 0, none⟩) en en) := ⟨_, rfl⟩
        have HU : Hid (U = w'.setCell ⟨w.heap.size, k, none⟩ (.slice (some ⟨wr.heap.size, 0, none⟩) en en)) := hU
        have hsU : U.heap.size = w'.heap.size := by rw [hU]; simp
        have hsm : Same (w.heap.size + 1) w'.heap.size w' U := by rw [hU]; exact fun b h1 _ => Below.heap_setCell w' ⟨w.heap.size, k, none⟩ _ b (by show b ≠ w.heap.size; omega)
        have HR2 : Hid (U.rowIs w.heap.size 87 n (partV (.slice none 0 0) (fun i => if i = k then .slice (some ⟨wr.heap.size, 0, none⟩) en en else V i) (k + 1))) := by unfold Hid; rw [hU]; exact partV_step _ hrow2
        have HB2 : Hid (Below w.heap.size w U) := by unfold Hid; rw [hU]; exact (HB.out.trans (hb'.mono HB.out.size)).setCell (Nat.le_refl _) _
        have HK2 : Hid (∀ j, j < k + 1 → SlF (w.heap.size + 1) U.heap.size U (if j = k then .slice (some ⟨wr.heap.size, 0, none⟩) en en else V j) (xs.getD j [])) := by
          intro j hj
          rw [hsU]
          by_cases e : j = k
          · subst e
            rw [if_pos rfl]
            exact (HNew.out.mono (by omega) (Nat.le_refl _)).same hsm
          · rw [if_neg e]
            exact (((HKids.out j (by omega)).same (Same.of_below hb' (Nat.le_refl _))).mono (Nat.le_refl _) hb'.size).same hsm
        have hsz2 : w.heap.size + 1 ≤ U.heap.size := by have := hb'.size; omega
        clear hrow' hb' hrow2 hsm hU
        go_wp2_with fail
        rw [← HU.out]
        go_roundw
        case rel => exact ⟨k + 1, _, by omega, by go_num, HR2.out, HK2.out, HB2.out, hsz2⟩
        case measure => simp [intOf]; omega
    · have hkn : k = n := by omega
      have HRd : Hid (RFF w.heap.size wr.heap.size wr (some ⟨w.heap.size, 0, none⟩) n n xs) := by
        refine ⟨HL.out, ⟨Nat.le_refl _, by omega⟩, .inr ⟨w.heap.size, 0, rfl, Nat.le_refl _, by omega, fun i hi => ⟨V i, ?_, (HKids.out i (by omega)).mono (by omega) (Nat.le_refl _)⟩⟩⟩
        have := HRow.out.cell hi
        rw [Nat.zero_add, this]
        simp [partV, hkn, hi]
      clear hrow hkids hbel hkn
      go_wp2_with fail
      go_ret
      exact ⟨rfl, HRd.out, HB.out⟩
end

end Go.Proofs.YtfbokljbmihlbaaGreat
