/- The laws' own count, comparison and copy of the lists of a world. -/
import Derived.Test.YtfbokljbmihlbaaGreatWdMem
import Derived.Test.YtfbokljbmihlbaaGreatSzB
import Derived.Test.YtfbokljbmihlbaaGreatConTo
import Derived.Deep.RegionWith
namespace Go.Proofs.YtfbokljbmihlbaaGreat
open Go.RowKit

theorem szBoolS_any (a : Option Addr) (n cap : Nat) (left : Int) (w : World) (hl : 0 ≤ left ∧ left ≤ 1048576) (hn : n ≤ 9223372036854775807) :
    Calls Tryz.prog 47 #[.slice a n cap, .int .i64 left] w fun e w' => e = .returned (.int .i64 (szRes left n)) ∧ w' = w := by
  obtain ⟨h0, h1⟩ := hl
  by_cases h : left < n
  · have HE : Hid (szRes left n = -1) := if_pos h
    go_enter Tryz.func47, Tryz.ntmps47
    go_wp2
    go_ret
    exact ⟨ri HE.out.symm, rfl⟩
  · have HE : Hid (szRes left n = left - n) := if_neg h
    go_enter Tryz.func47, Tryz.ntmps47
    go_wp2
    go_ret
    exact ⟨ri HE.out.symm, rfl⟩

theorem szIntS_any (a : Option Addr) (n cap : Nat) (left : Int) (w : World) (hl : 0 ≤ left ∧ left ≤ 1048576) (hn : n ≤ 9223372036854775807) :
    Calls Tryz.prog 20 #[.slice a n cap, .int .i64 left] w fun e w' => e = .returned (.int .i64 (szRes left n)) ∧ w' = w := by
  obtain ⟨h0, h1⟩ := hl
  by_cases h : left < n
  · have HE : Hid (szRes left n = -1) := if_pos h
    go_enter Tryz.func20, Tryz.ntmps20
    go_wp2
    go_ret
    exact ⟨ri HE.out.symm, rfl⟩
  · have HE : Hid (szRes left n = left - n) := if_neg h
    go_enter Tryz.func20, Tryz.ntmps20
    go_wp2
    go_ret
    exact ⟨ri HE.out.symm, rfl⟩

set_option maxHeartbeats 800000 in
theorem szByteSS_any (a : Option Addr) (n cap : Nat) (xs : List (List Int)) (left : Int) (w : World) {lo hi : Nat} (h : RSS lo hi w a n cap xs) (h0 : 0 ≤ left) (h1 : left ≤ 1048576) :
    Calls Tryz.prog 18 #[.slice a n cap, .int .i64 left] w fun e w' => ∃ r : Int, e = .returned (.int .i64 r) ∧ r ≤ left ∧ (¬ r < 0 → n ≤ 1048576 ∧ ∀ i, i < n → (xs.getD i []).length ≤ 1048576) ∧ w' = w := by
  have HR : Hid (RSS lo hi w a n cap xs) := h
  obtain ⟨hl, ⟨hm, hM⟩, hcs⟩ := h
  clear hcs hl
  by_cases hbig : left < n
  · go_enter Tryz.func18, Tryz.ntmps18
    go_wp2_with fail
    go_ret
    exact ⟨-1, rfl, by omega, fun hh => by omega, rfl⟩
  · go_enter Tryz.func18, Tryz.ntmps18
    go_wp2_with fail
    go_loopw [1, 5] (fun l i wr => ∃ (k : Nat) (L : Int), k ≤ n ∧ i = .int .i64 k ∧ l = .int .i64 L ∧ 0 ≤ L ∧ L ≤ left ∧ (∀ i, i < k → (xs.getD i []).length ≤ 1048576) ∧ wr = w) (fun _ i _ => n - (intOf i).toNat)
    case atStart => exact ⟨0, left - n, Nat.zero_le _, rfl, by go_num, by omega, by omega, fun i hi => by omega, rfl⟩
    case round =>
      obtain ⟨k, L, hk, rfl, rfl, hL0, hL1, hall, rfl⟩ := hrel
      have HAll : Hid (∀ i, i < k → (xs.getD i []).length ≤ 1048576) := hall
      clear hall
      by_cases hlt : k < n
      · rcases HR.out.cells with hz | ⟨b, off, e1, _, _, hc⟩
        · omega
        · subst e1
          obtain ⟨v, c0, ea, en, ec, rfl, hr⟩ := hc k hlt
          have hki : (k : Int) < (n : Int) := by omega
          have hen : (xs.getD k []).length = en := hr.len
          have hef := hr.fits
          obtain ⟨r, hrr⟩ : ∃ r, r = szRes L en := ⟨_, rfl⟩
          have HRR : Hid (r = szRes L en) := hrr
          have HEn : Hid ((xs.getD k []).length = en) := hen
          clear hc hr hrr hen
          go_wp2_with fail
          refine (szByteS_any ea en ec L wr ⟨hL0, by omega⟩ (by omega)).mono ?_
          rintro e w' ⟨rfl, hw'⟩
          rw [← HRR.out, hw']
          clear hw'
          by_cases hneg : r < 0
          · go_wp2_with fail
            go_ret
            exact ⟨-1, rfl, by omega, fun hh => by omega, rfl⟩
          · have HLe : Hid (r = L - en ∧ (en : Int) ≤ L) := by
              have e := HRR.out
              unfold szRes at e
              split at e
              · omega
              · exact ⟨e, by omega⟩
            go_wp2_with fail
            go_roundw
            case rel => exact ⟨k + 1, r, by omega, by go_num, rfl, by omega, by have := HLe.out; omega, fun i hi => by
              by_cases hik : i < k
              · exact HAll.out i hik
              · obtain rfl : i = k := by omega
                have := HEn.out; have := HLe.out; omega, by first | rfl | trivial⟩
            case measure => simp [intOf]; omega
      · have hkn : k = n := by omega
        subst hkn
        go_wp2_with fail
        go_ret
        exact ⟨L, rfl, hL1, fun _ => ⟨by omega, HAll.out⟩, rfl⟩

set_option maxHeartbeats 800000 in
theorem szBoolSS_any (a : Option Addr) (n cap : Nat) (xs : List (List Bool)) (left : Int) (w : World) {lo hi : Nat} (h : RFF lo hi w a n cap xs) (h0 : 0 ≤ left) (h1 : left ≤ 1048576) :
    Calls Tryz.prog 19 #[.slice a n cap, .int .i64 left] w fun e w' => ∃ r : Int, e = .returned (.int .i64 r) ∧ r ≤ left ∧ (¬ r < 0 → n ≤ 1048576 ∧ ∀ i, i < n → (xs.getD i []).length ≤ 1048576) ∧ w' = w := by
  have HR : Hid (RFF lo hi w a n cap xs) := h
  obtain ⟨hl, ⟨hm, hM⟩, hcs⟩ := h
  clear hcs hl
  by_cases hbig : left < n
  · go_enter Tryz.func19, Tryz.ntmps19
    go_wp2_with fail
    go_ret
    exact ⟨-1, rfl, by omega, fun hh => by omega, rfl⟩
  · go_enter Tryz.func19, Tryz.ntmps19
    go_wp2_with fail
    go_loopw [1, 5] (fun l i wr => ∃ (k : Nat) (L : Int), k ≤ n ∧ i = .int .i64 k ∧ l = .int .i64 L ∧ 0 ≤ L ∧ L ≤ left ∧ (∀ i, i < k → (xs.getD i []).length ≤ 1048576) ∧ wr = w) (fun _ i _ => n - (intOf i).toNat)
    case atStart => exact ⟨0, left - n, Nat.zero_le _, rfl, by go_num, by omega, by omega, fun i hi => by omega, rfl⟩
    case round =>
      obtain ⟨k, L, hk, rfl, rfl, hL0, hL1, hall, rfl⟩ := hrel
      have HAll : Hid (∀ i, i < k → (xs.getD i []).length ≤ 1048576) := hall
      clear hall
      by_cases hlt : k < n
      · rcases HR.out.cells with hz | ⟨b, off, e1, _, _, hc⟩
        · omega
        · subst e1
          obtain ⟨v, c0, ea, en, ec, rfl, hr⟩ := hc k hlt
          have hki : (k : Int) < (n : Int) := by omega
          have hen : (xs.getD k []).length = en := hr.len
          have hef := hr.fits
          obtain ⟨r, hrr⟩ : ∃ r, r = szRes L en := ⟨_, rfl⟩
          have HRR : Hid (r = szRes L en) := hrr
          have HEn : Hid ((xs.getD k []).length = en) := hen
          clear hc hr hrr hen
          go_wp2_with fail
          refine (szBoolS_any ea en ec L wr ⟨hL0, by omega⟩ (by omega)).mono ?_
          rintro e w' ⟨rfl, hw'⟩
          rw [← HRR.out, hw']
          clear hw'
          by_cases hneg : r < 0
          · go_wp2_with fail
            go_ret
            exact ⟨-1, rfl, by omega, fun hh => by omega, rfl⟩
          · have HLe : Hid (r = L - en ∧ (en : Int) ≤ L) := by
              have e := HRR.out
              unfold szRes at e
              split at e
              · omega
              · exact ⟨e, by omega⟩
            go_wp2_with fail
            go_roundw
            case rel => exact ⟨k + 1, r, by omega, by go_num, rfl, by omega, by have := HLe.out; omega, fun i hi => by
              by_cases hik : i < k
              · exact HAll.out i hik
              · obtain rfl : i = k := by omega
                have := HEn.out; have := HLe.out; omega, by first | rfl | trivial⟩
            case measure => simp [intOf]; omega
      · have hkn : k = n := by omega
        subst hkn
        go_wp2_with fail
        go_ret
        exact ⟨L, rfl, hL1, fun _ => ⟨by omega, HAll.out⟩, rfl⟩

set_option maxHeartbeats 800000 in
theorem eqBoolS_any (a a' : Option Addr) (n cap cap' : Nat) (xs : List Bool) (w : World) {lo hi lo' hi' : Nat} (h : RB lo hi w a n cap xs) (h' : RB lo' hi' w a' n cap' xs) :
    Calls Tryz.prog 76 #[.slice a n cap, .slice a' n cap'] w fun e w' => e = .returned (.bool true) ∧ ∃ nd, w' = w.drewN nd := by
  have HR : Hid (RB lo hi w a n cap xs) := h
  have HR' : Hid (RB lo' hi' w a' n cap' xs) := h'
  obtain ⟨hl, ⟨hm, hM⟩, hcs⟩ := h
  obtain ⟨hl', ⟨hm', hM'⟩, hcs'⟩ := h'
  have hb0 : ((n : Int) != (n : Int)) = false := by simp
  clear hcs hcs' hl hl'
  go_enter Tryz.func76, Tryz.ntmps76
  go_wp2_with fail
  go_loopw [5] (fun i wr => ∃ k : Nat, k ≤ n ∧ i = .int .i64 k ∧ ∃ nd, wr = w.drewN nd) (fun i _ => n - (intOf i).toNat)
  case atStart => exact ⟨0, Nat.zero_le _, rfl, 0, rfl⟩
  case round =>
    obtain ⟨k, hk, rfl, nd, hwr⟩ := hrel
    subst hwr
    by_cases hlt : k < n
    · rcases HR.out.cells with h0 | ⟨b1, off1, e1, _, _, hc1⟩
      · omega
      · rcases HR'.out.cells with h0 | ⟨b2, off2, e2, _, _, hc2⟩
        · omega
        · subst e1 e2
          obtain ⟨v, c0, hv⟩ := hc1 k hlt
          obtain ⟨v', c0', hv'⟩ := hc2 k hlt
          obtain ⟨z, hz⟩ : ∃ z, z = xs.getD k false := ⟨_, rfl⟩
          rw [← hz] at hv hv'
          subst hv hv'
          have hzz : (z != z) = false := by simp
          have hki : (k : Int) < (n : Int) := by omega
          clear hc1 hc2 hz
          go_wp2
          go_quiet (fail)
          go_wp2
          go_roundw
          case rel => exact ⟨k + 1, by omega, by go_num, nd + nq, by first | rfl | exact drew_add _ _ _⟩
          case measure => simp [intOf]; omega
    · go_wp2_with fail
      go_ret
      exact ⟨rfl, nd, rfl⟩

set_option maxHeartbeats 800000 in
theorem eqIntS_any (a a' : Option Addr) (n cap cap' : Nat) (xs : List Int) (w : World) {lo hi lo' hi' : Nat} (h : RI lo hi w a n cap xs) (h' : RI lo' hi' w a' n cap' xs) :
    Calls Tryz.prog 36 #[.slice a n cap, .slice a' n cap'] w fun e w' => e = .returned (.bool true) ∧ ∃ nd, w' = w.drewN nd := by
  have HR : Hid (RI lo hi w a n cap xs) := h
  have HR' : Hid (RI lo' hi' w a' n cap' xs) := h'
  obtain ⟨hl, ⟨hm, hM⟩, hcs⟩ := h
  obtain ⟨hl', ⟨hm', hM'⟩, hcs'⟩ := h'
  have hb0 : ((n : Int) != (n : Int)) = false := by simp
  clear hcs hcs' hl hl'
  go_enter Tryz.func36, Tryz.ntmps36
  go_wp2_with fail
  go_loopw [5] (fun i wr => ∃ k : Nat, k ≤ n ∧ i = .int .i64 k ∧ ∃ nd, wr = w.drewN nd) (fun i _ => n - (intOf i).toNat)
  case atStart => exact ⟨0, Nat.zero_le _, rfl, 0, rfl⟩
  case round =>
    obtain ⟨k, hk, rfl, nd, hwr⟩ := hrel
    subst hwr
    by_cases hlt : k < n
    · rcases HR.out.cells with h0 | ⟨b1, off1, e1, _, _, hc1⟩
      · omega
      · rcases HR'.out.cells with h0 | ⟨b2, off2, e2, _, _, hc2⟩
        · omega
        · subst e1 e2
          obtain ⟨v, c0, hv⟩ := hc1 k hlt
          obtain ⟨v', c0', hv'⟩ := hc2 k hlt
          obtain ⟨z, hz⟩ : ∃ z, z = xs.getD k 0 := ⟨_, rfl⟩
          rw [← hz] at hv hv'
          subst hv hv'
          have hzz : (z != z) = false := by simp
          have hki : (k : Int) < (n : Int) := by omega
          clear hc1 hc2 hz
          go_wp2
          go_quiet (fail)
          go_wp2
          go_roundw
          case rel => exact ⟨k + 1, by omega, by go_num, nd + nq, by first | rfl | exact drew_add _ _ _⟩
          case measure => simp [intOf]; omega
    · go_wp2_with fail
      go_ret
      exact ⟨rfl, nd, rfl⟩

set_option maxHeartbeats 800000 in
theorem eqByteSS_any (a a' : Option Addr) (n cap cap' : Nat) (xs : List (List Int)) (w : World) {lo hi lo' hi' : Nat} (h : RSS lo hi w a n cap xs) (h' : RSS lo' hi' w a' n cap' xs) (hh : hi ≤ w.heap.size) (hh' : hi' ≤ w.heap.size) :
    Calls Tryz.prog 34 #[.slice a n cap, .slice a' n cap'] w fun e w' => e = .returned (.bool true) ∧ Below w.heap.size w w' := by
  have HR : Hid (RSS lo hi w a n cap xs) := h
  have HR' : Hid (RSS lo' hi' w a' n cap' xs) := h'
  obtain ⟨hl, ⟨hm, hM⟩, hcs⟩ := h
  obtain ⟨hl', ⟨hm', hM'⟩, hcs'⟩ := h'
  have hb0 : ((n : Int) != (n : Int)) = false := by simp
  clear hcs hcs' hl hl'
  go_enter Tryz.func34, Tryz.ntmps34
  go_wp2_with fail
  go_loopw [5] (fun i wr => ∃ k : Nat, k ≤ n ∧ i = .int .i64 k ∧ Below w.heap.size w wr) (fun i _ => n - (intOf i).toNat)
  case atStart => exact ⟨0, Nat.zero_le _, rfl, Below.refl _ _⟩
  case round =>
    obtain ⟨k, hk, rfl, hbel⟩ := hrel
    have HB : Hid (Below w.heap.size w wr) := hbel
    by_cases hlt : k < n
    · have h1 := HR.out.below hbel hh
      have h2 := HR'.out.below hbel hh'
      rcases h1.cells with h0 | ⟨b1, off1, e1, _, _, hc1⟩
      · omega
      · rcases h2.cells with h0 | ⟨b2, off2, e2, _, _, hc2⟩
        · omega
        · subst e1 e2
          obtain ⟨v, c0, ea, en, ec, rfl, hr⟩ := hc1 k hlt
          obtain ⟨v', c0', xa, xn, xc, rfl, hr'⟩ := hc2 k hlt
          have HK := hr.same (w' := wr.drew) (fun _ _ _ => rfl)
          have HK' := hr'.same (w' := wr.drew) (fun _ _ _ => rfl)
          have HK1 : Hid _ := HK
          have HK1' : Hid _ := HK'
          have hki : (k : Int) < (n : Int) := by omega
          clear h1 h2 hc1 hc2 hr hr' hbel HK HK'
          go_wp2_with fail
          go_region_with (go_at_call 38; refine (eqByteS_any ea xa en ec xn xc (xs.getD k []) (xs.getD k []) _ (lo := lo) (hi := hi) (lo' := lo') (hi' := hi') ?_ ?_).mono ?_; exact HK1.out; exact HK1'.out; rintro e w' ⟨rfl, nd, hwn⟩; rw [show decide (xs.getD k [] = xs.getD k []) = true from by simp]; have hbe : Below wr.heap.size wr w' := (by rw [hwn]; exact below_drewN ((Below.refl _ _).drew) nd); clear hwn)
          all_goals
            go_wp2_with fail
            go_roundw
            case rel => exact ⟨k + 1, by omega, by go_num, HB.out.trans (hbe.mono HB.out.size)⟩
            case measure => simp [intOf]; omega
    · clear hbel
      go_wp2_with fail
      go_ret
      exact ⟨rfl, HB.out⟩

set_option maxHeartbeats 800000 in
theorem eqBoolSS_any (a a' : Option Addr) (n cap cap' : Nat) (xs : List (List Bool)) (w : World) {lo hi lo' hi' : Nat} (h : RFF lo hi w a n cap xs) (h' : RFF lo' hi' w a' n cap' xs) (hh : hi ≤ w.heap.size) (hh' : hi' ≤ w.heap.size) :
    Calls Tryz.prog 35 #[.slice a n cap, .slice a' n cap'] w fun e w' => e = .returned (.bool true) ∧ Below w.heap.size w w' := by
  have HR : Hid (RFF lo hi w a n cap xs) := h
  have HR' : Hid (RFF lo' hi' w a' n cap' xs) := h'
  obtain ⟨hl, ⟨hm, hM⟩, hcs⟩ := h
  obtain ⟨hl', ⟨hm', hM'⟩, hcs'⟩ := h'
  have hb0 : ((n : Int) != (n : Int)) = false := by simp
  clear hcs hcs' hl hl'
  go_enter Tryz.func35, Tryz.ntmps35
  go_wp2_with fail
  go_loopw [5] (fun i wr => ∃ k : Nat, k ≤ n ∧ i = .int .i64 k ∧ Below w.heap.size w wr) (fun i _ => n - (intOf i).toNat)
  case atStart => exact ⟨0, Nat.zero_le _, rfl, Below.refl _ _⟩
  case round =>
    obtain ⟨k, hk, rfl, hbel⟩ := hrel
    have HB : Hid (Below w.heap.size w wr) := hbel
    by_cases hlt : k < n
    · have h1 := HR.out.below hbel hh
      have h2 := HR'.out.below hbel hh'
      rcases h1.cells with h0 | ⟨b1, off1, e1, _, _, hc1⟩
      · omega
      · rcases h2.cells with h0 | ⟨b2, off2, e2, _, _, hc2⟩
        · omega
        · subst e1 e2
          obtain ⟨v, c0, ea, en, ec, rfl, hr⟩ := hc1 k hlt
          obtain ⟨v', c0', xa, xn, xc, rfl, hr'⟩ := hc2 k hlt
          have hxe : xn = en := by have h1 := hr.len; have h2 := hr'.len; omega
          subst hxe
          have HK := hr.same (w' := wr.drew) (fun _ _ _ => rfl)
          have HK' := hr'.same (w' := wr.drew) (fun _ _ _ => rfl)
          have HK1 : Hid _ := HK
          have HK1' : Hid _ := HK'
          have hki : (k : Int) < (n : Int) := by omega
          clear h1 h2 hc1 hc2 hr hr' hbel HK HK'
          go_wp2_with fail
          go_region_with (go_at_call 76; refine (eqBoolS_any ea xa xn ec xc (xs.getD k []) _ (lo := lo) (hi := hi) (lo' := lo') (hi' := hi') ?_ ?_).mono ?_; exact HK1.out; exact HK1'.out; rintro e w' ⟨rfl, nd, hwn⟩; have hbe : Below wr.heap.size wr w' := (by rw [hwn]; exact below_drewN ((Below.refl _ _).drew) nd); clear hwn)
          all_goals
            go_wp2_with fail
            go_roundw
            case rel => exact ⟨k + 1, by omega, by go_num, HB.out.trans (hbe.mono HB.out.size)⟩
            case measure => simp [intOf]; omega
    · clear hbel
      go_wp2_with fail
      go_ret
      exact ⟨rfl, HB.out⟩

end Go.Proofs.YtfbokljbmihlbaaGreat
