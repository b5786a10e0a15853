/- The laws' own count, comparison and copy of the lists of a world. -/
import Derived.Test.YtpedjcabapldgaaDoorWdMem
import Derived.Test.YtpedjcabapldgaaDoorSzB
import Derived.Test.YtpedjcabapldgaaDoorConTo
import Derived.Deep.RegionWith
namespace Go.Proofs.YtpedjcabapldgaaDoor
open Go.RowKit

set_option maxHeartbeats 800000 in
theorem szByteSS_any (a : Option Addr) (n cap : Nat) (xs : List (List Int)) (left : Int) (w : World) {lo hi : Nat} (h : RSS lo hi w a n cap xs) (h0 : 0 ≤ left) (h1 : left ≤ 1048576) :
    Calls Tryd.prog 25 #[.slice a n cap, .int .i64 left] w fun e w' => ∃ r : Int, e = .returned (.int .i64 r) ∧ r ≤ left ∧ (¬ r < 0 → n ≤ 1048576 ∧ ∀ i, i < n → (xs.getD i []).length ≤ 1048576) ∧ w' = w := by
  have HR : Hid (RSS lo hi w a n cap xs) := h
  obtain ⟨hl, ⟨hm, hM⟩, hcs⟩ := h
  clear hcs hl
  by_cases hbig : left < n
  · go_enter Tryd.func25, Tryd.ntmps25
    go_wp2_with fail
    go_ret
    exact ⟨-1, rfl, by omega, fun hh => by omega, rfl⟩
  · go_enter Tryd.func25, Tryd.ntmps25
    go_wp2_with fail
    go_loopw [1, 5] (fun l i wr => ∃ (k : Nat) (L : Int), k ≤ n ∧ i = .int .i64 k ∧ l = .int .i64 L ∧ 0 ≤ L ∧ L ≤ left ∧ (∀ i, i < k → (xs.getD i []).length ≤ 1048576) ∧ wr = w) (fun _ i _ => n - (intOf i).toNat)
    case atStart => exact ⟨0, left - n, Nat.zero_le _, rfl, by go_num, by omega, by omega, fun i hi => by omega, rfl⟩
    case round =>
      obtain ⟨k, L, hk, rfl, rfl, hL0, hL1, hall, rfl⟩ := hrel
      have HAll : Hid (∀ i, i < k → (xs.getD i []).length ≤ 1048576) := hall
      clear hall
      by_cases hlt : k < n
      · rcases HR.out.cells with hz | ⟨b, off, e1, _, _, hc⟩
        · omega
        · subst e1
          obtain ⟨v, c0, ea, en, ec, rfl, hr⟩ := hc k hlt
          have hki : (k : Int) < (n : Int) := by omega
          have hen : (xs.getD k []).length = en := hr.len
          have hef := hr.fits
          obtain ⟨r, hrr⟩ : ∃ r, r = szRes L en := ⟨_, rfl⟩
          have HRR : Hid (r = szRes L en) := hrr
          have HEn : Hid ((xs.getD k []).length = en) := hen
          clear hc hr hrr hen
          go_wp2_with fail
          refine (szByteS_any ea en ec L wr ⟨hL0, by omega⟩ (by omega)).mono ?_
          rintro e w' ⟨rfl, hw'⟩
          rw [← HRR.out, hw']
          clear hw'
          by_cases hneg : r < 0
          · go_wp2_with fail
            go_ret
            exact ⟨-1, rfl, by omega, fun hh => by omega, rfl⟩
          · have HLe : Hid (r = L - en ∧ (en : Int) ≤ L) := by
              have e := HRR.out
              unfold szRes at e
              split at e
              · omega
              · exact ⟨e, by omega⟩
            go_wp2_with fail
            go_roundw
            case rel => exact ⟨k + 1, r, by omega, by go_num, rfl, by omega, by have := HLe.out; omega, fun i hi => by
              by_cases hik : i < k
              · exact HAll.out i hik
              · obtain rfl : i = k := by omega
                have := HEn.out; have := HLe.out; omega, by first | rfl | trivial⟩
            case measure => simp [intOf]; omega
      · have hkn : k = n := by omega
        subst hkn
        go_wp2_with fail
        go_ret
        exact ⟨L, rfl, hL1, fun _ => ⟨by omega, HAll.out⟩, rfl⟩

set_option maxHeartbeats 800000 in
theorem eqByteSS_any (a a' : Option Addr) (n cap cap' : Nat) (xs : List (List Int)) (w : World) {lo hi lo' hi' : Nat} (h : RSS lo hi w a n cap xs) (h' : RSS lo' hi' w a' n cap' xs) (hh : hi ≤ w.heap.size) (hh' : hi' ≤ w.heap.size) :
    Calls Tryd.prog 33 #[.slice a n cap, .slice a' n cap'] w fun e w' => e = .returned (.bool true) ∧ Below w.heap.size w w' := by
  have HR : Hid (RSS lo hi w a n cap xs) := h
  have HR' : Hid (RSS lo' hi' w a' n cap' xs) := h'
  obtain ⟨hl, ⟨hm, hM⟩, hcs⟩ := h
  obtain ⟨hl', ⟨hm', hM'⟩, hcs'⟩ := h'
  have hb0 : ((n : Int) != (n : Int)) = false := by simp
  clear hcs hcs' hl hl'
  go_enter Tryd.func33, Tryd.ntmps33
  go_wp2_with fail
  go_loopw [5] (fun i wr => ∃ k : Nat, k ≤ n ∧ i = .int .i64 k ∧ Below w.heap.size w wr) (fun i _ => n - (intOf i).toNat)
  case atStart => exact ⟨0, Nat.zero_le _, rfl, Below.refl _ _⟩
  case round =>
    obtain ⟨k, hk, rfl, hbel⟩ := hrel
    have HB : Hid (Below w.heap.size w wr) := hbel
    by_cases hlt : k < n
    · have h1 := HR.out.below hbel hh
      have h2 := HR'.out.below hbel hh'
      rcases h1.cells with h0 | ⟨b1, off1, e1, _, _, hc1⟩
      · omega
      · rcases h2.cells with h0 | ⟨b2, off2, e2, _, _, hc2⟩
        · omega
        · subst e1 e2
          obtain ⟨v, c0, ea, en, ec, rfl, hr⟩ := hc1 k hlt
          obtain ⟨v', c0', xa, xn, xc, rfl, hr'⟩ := hc2 k hlt
          have HK := hr.same (w' := wr.drew) (fun _ _ _ => rfl)
          have HK' := hr'.same (w' := wr.drew) (fun _ _ _ => rfl)
          have HK1 : Hid _ := HK
          have HK1' : Hid _ := HK'
          have hki : (k : Int) < (n : Int) := by omega
          clear h1 h2 hc1 hc2 hr hr' hbel HK HK'
          go_wp2_with fail
          go_region_with (go_at_call 8; refine (eqByteS_any ea xa en ec xn xc (xs.getD k []) (xs.getD k []) _ (lo := lo) (hi := hi) (lo' := lo') (hi' := hi') ?_ ?_).mono ?_; exact HK1.out; exact HK1'.out; rintro e w' ⟨rfl, nd, hwn⟩; rw [show decide (xs.getD k [] = xs.getD k []) = true from by simp]; have hbe : Below wr.heap.size wr w' := (by rw [hwn]; exact below_drewN ((Below.refl _ _).drew) nd); clear hwn)
          all_goals
            go_wp2_with fail
            go_roundw
            case rel => exact ⟨k + 1, by omega, by go_num, HB.out.trans (hbe.mono HB.out.size)⟩
            case measure => simp [intOf]; omega
    · clear hbel
      go_wp2_with fail
      go_ret
      exact ⟨rfl, HB.out⟩

end Go.Proofs.YtpedjcabapldgaaDoor
