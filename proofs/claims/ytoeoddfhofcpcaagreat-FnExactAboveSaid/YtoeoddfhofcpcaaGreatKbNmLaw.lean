/- Two lists of words compared by the laws; the row of a list under marks. -/
import Derived.Test.YtoeoddfhofcpcaaGreatWFin
import Derived.Deep.RegionWith
namespace Go.Proofs.YtoeoddfhofcpcaaGreat
open Go.RowKit

set_option maxHeartbeats 800000 in
theorem eqByteSS_any (a a' : Option Addr) (n cap cap' : Nat) (xs : List (List Int)) (w : World) {lo hi lo' hi' : Nat} (h : RSS lo hi w a n cap xs) (h' : RSS lo' hi' w a' n cap' xs) (hh : hi ≤ w.heap.size) (hh' : hi' ≤ w.heap.size) :
    Calls Tryz.prog 11 #[.slice a n cap, .slice a' n cap'] w fun e w' => e = .returned (.bool true) ∧ Below w.heap.size w w' := by
  have HR : Hid (RSS lo hi w a n cap xs) := h
  have HR' : Hid (RSS lo' hi' w a' n cap' xs) := h'
  obtain ⟨hl, ⟨hm, hM⟩, hcs⟩ := h
  obtain ⟨hl', ⟨hm', hM'⟩, hcs'⟩ := h'
  have hb0 : ((n : Int) != (n : Int)) = false := by simp
  clear hcs hcs' hl hl'
  go_enter Tryz.func11, Tryz.ntmps11
  go_wp2_with fail
  go_loopw [5] (fun i wr => ∃ k : Nat, k ≤ n ∧ i = .int .i64 k ∧ Below w.heap.size w wr) (fun i _ => n - (intOf i).toNat)
  case atStart => exact ⟨0, Nat.zero_le _, rfl, Below.refl _ _⟩
  case round =>
    obtain ⟨k, hk, rfl, hbel⟩ := hrel
    have HB : Hid (Below w.heap.size w wr) := hbel
    by_cases hlt : k < n
    · have h1 := HR.out.below hbel hh
      have h2 := HR'.out.below hbel hh'
      rcases h1.cells with h0 | ⟨b1, off1, e1, _, _, hc1⟩
      · omega
      · rcases h2.cells with h0 | ⟨b2, off2, e2, _, _, hc2⟩
        · omega
        · subst e1 e2
          obtain ⟨v, c0, ea, en, ec, rfl, hr⟩ := hc1 k hlt
          obtain ⟨v', c0', xa, xn, xc, rfl, hr'⟩ := hc2 k hlt
          have HK := hr.same (w' := wr.drew) (fun _ _ _ => rfl)
          have HK' := hr'.same (w' := wr.drew) (fun _ _ _ => rfl)
          have HK1 : Hid _ := HK
          have HK1' : Hid _ := HK'
          have hki : (k : Int) < (n : Int) := by omega
          clear h1 h2 hc1 hc2 hr hr' hbel HK HK'
          go_wp2_with fail
          go_region_with (go_at_call 13; refine (eqByteS_any ea xa en ec xn xc (xs.getD k []) (xs.getD k []) _ (lo := lo) (hi := hi) (lo' := lo') (hi' := hi') ?_ ?_).mono ?_; exact HK1.out; exact HK1'.out; rintro e w' ⟨rfl, nd, hwn⟩; rw [show decide (xs.getD k [] = xs.getD k []) = true from by simp]; have hbe : Below wr.heap.size wr w' := (by rw [hwn]; exact below_drewN ((Below.refl _ _).drew) nd); clear hwn)
          all_goals
            go_wp2_with fail
            go_roundw
            case rel => exact ⟨k + 1, by omega, by go_num, HB.out.trans (hbe.mono HB.out.size)⟩
            case measure => simp [intOf]; omega
    · clear hbel
      go_wp2_with fail
      go_ret
      exact ⟨rfl, HB.out⟩

theorem eqOwn_any {base base' : Nat} {w : World} {v v' : Value} {L : List (List Int)} {gs gs' : List (Nat × Nat)} (h : OwnW base w v L gs) (h' : OwnW base' w v' L gs') :
    Calls Tryz.prog 11 #[v, v'] w fun e w' => e = .returned (.bool true) ∧ Below w.heap.size w w' := by
  obtain ⟨a, c, rfl, hr⟩ := h.rss
  obtain ⟨a', c', rfl, hr'⟩ := h'.rss
  exact eqByteSS_any _ _ _ _ _ L w hr hr' (Nat.le_refl _) (Nat.le_refl _)

theorem RowV.marks {w : World} {v : Value} {L : List (List Int)} {gs : List (Nat × Nat)} (h : RowV w v L gs) (k : Int) : RowV (marks w (leafW L gs L.length) k) v L gs := by
  rcases h with h | ⟨b, cap, hv, h1, h2, h3, h4, h5⟩
  · exact .inl h
  · refine .inr ⟨b, cap, hv, h1, h2, by rw [size_marks]; exact h3, h4, fun i hi => ?_⟩
    rw [cell_marks_other (fun x hx e => ?_)]
    · exact h5 i hi
    · obtain ⟨j, hj, hx⟩ := leafW_mem hx
      have := leafBw_mem hx
      rw [e] at this
      exact h4 j hj this

theorem RowV.below {w w' : World} {v : Value} {L : List (List Int)} {gs : List (Nat × Nat)} (h : RowV w v L gs) (hb : Below w.heap.size w w') : RowV w' v L gs := by
  rcases h with h | ⟨b, cap, hv, h1, h2, h3, h4, h5⟩
  · exact .inl h
  · exact .inr ⟨b, cap, hv, h1, h2, Nat.lt_of_lt_of_le h3 hb.size, h4, fun i hi => (hb.cell (p := ⟨b, i, none⟩) h3).trans (h5 i hi)⟩

end Go.Proofs.YtoeoddfhofcpcaaGreat
