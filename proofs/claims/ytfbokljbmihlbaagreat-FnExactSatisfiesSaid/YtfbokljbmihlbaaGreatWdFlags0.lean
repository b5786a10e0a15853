/- impl.flagsOf, members: contracts. -/
import Derived.Test.YtfbokljbmihlbaaGreatWdSearch0
namespace Go.Proofs.YtfbokljbmihlbaaGreat
open Go.RowKit

set_option maxRecDepth 100000 in
set_option maxHeartbeats 8000000 in
theorem flagsOf_any (a : Option Addr) (n cap : Nat) (xs : List (List Int)) (sa : Option Addr) (sc : Nat) (ls : List (List Bool)) (wa : Option Addr) (wn wc : Nat) (wd : List Int) (L : Nat) (w : World) {lo hi lo' hi' lo2 hi2 : Nat} (h : RSS lo hi w a n cap xs) (h2 : RFF lo2 hi2 w sa n sc ls) (h' : Rd lo' hi' w wa wn wc wd)
    (ha : Asc xs) (hn : n ≤ 1048576) (hls : ∀ i, i < n → (ls.getD i []).length = L) (hL : 1 ≤ L ∧ L ≤ 16384) :
    Calls Tryz.prog 105 #[.slice a n cap, .slice sa n sc, .slice wa wn wc, .int .i64 L] w fun e w' => ∃ b2 o2 c, e = .returned (.slice (some ⟨b2, o2, none⟩) L c) ∧ ((L ≤ c ∧ c ≤ 9223372036854775807) ∧ (b2 < hi2 ∨ w.heap.size ≤ b2)) ∧ (∀ q, q < L → w'.cell? ⟨b2, o2 + q, none⟩ = some (.bool (flagO xs ls wd q))) ∧ Below w.heap.size w w' := by
  have HR : Hid (RSS lo hi w a n cap xs) := h
  have HS : Hid (RFF lo2 hi2 w sa n sc ls) := h2
  have HW : Hid (Rd lo' hi' w wa wn wc wd) := h'
  have HA : Hid (Asc xs) := ha
  have HLs : Hid (∀ i, i < n → (ls.getD i []).length = L) := hls
  have hmk := fun w : World => run_make_row' (P := Tryz.prog) 87 4 (.bool false) 1 Tryz.underlying87 Tryz.info4w rfl .i64 .i64 L (by omega) (by omega) w
  have HRow : Hid ((w.alloc (.cells (madeCells #[(.bool false)] L) 4)).rowIs w.heap.size 4 L (fun _ => .bool false)) := World.rowIs_made w (.bool false) L 4
  have HB0 : Hid (Below w.heap.size w (w.alloc (.cells (madeCells #[(.bool false)] L) 4))) := (Below.refl _ _).alloc (Nat.le_refl _) _
  clear h h2 h' ha hls
  go_enter Tryz.func105, Tryz.ntmps105
  go_wp2_with fail
  refine (search_any a n cap xs wa wn wc wd w HR.out HW.out HA.out hn).mono ?_
  rintro e w5 ⟨i, f, rfl, hT, hF, hw5⟩
  rw [hw5]
  clear hw5
  cases f with
  | true =>
    have hO := hT rfl
    have hin : i < n := by have := idx_of hO; rwa [HR.out.len] at this
    rcases HS.out.cells with hz | ⟨b, off, e1, _, _, hc⟩
    · omega
    · subst e1
      obtain ⟨v, c0, ea, en, ec, rfl, hr⟩ := hc i hin
      have hel : en = L := by have h1 := hr.len; have h3 := HLs.out i hin; omega
      subst hel
      have hfit := hr.fits
      rcases hr.cells with hz | ⟨b2, o2, e2, _, hb2, hc2⟩
      · omega
      · subst e2
        have HC : Hid (∀ q, q < en → w.cell? ⟨b2, o2 + q, none⟩ = some (.bool (flagO xs ls wd q))) := fun q hq => by
          obtain ⟨v2, k2, rfl⟩ := hc2 q hq
          unfold flagO
          rw [hO]
          exact k2
        have hii : (i : Int) < (n : Int) := by omega
        clear hc hr hc2 hT hF hO hmk
        go_wp2_with fail
        go_ret
        exact ⟨b2, o2, ec, rfl, ⟨hfit, .inl hb2⟩, HC.out, Below.refl _ _⟩
  | false =>
    have hO := hF rfl
    have HC : Hid (∀ q, q < L → (w.alloc (.cells (madeCells #[(.bool false)] L) 4)).cell? ⟨w.heap.size, 0 + q, none⟩ = some (.bool (flagO xs ls wd q))) := fun q hq => by
      unfold flagO
      rw [hO, Nat.zero_add]
      exact HRow.out.cell hq
    clear hT hF hO
    go_wp2_with fail
    go_ret
    exact ⟨w.heap.size, 0, L, rfl, ⟨⟨Nat.le_refl _, by omega⟩, .inr (Nat.le_refl _)⟩, HC.out, HB0.out⟩

set_option maxRecDepth 100000 in
set_option maxHeartbeats 8000000 in
theorem members_any {na : Option Addr} {nn nc : Nat} {sa : Option Addr} {sn sc : Nat} {ra : Option Addr} {rn rc : Nat} {la : Option Addr} {ln lc : Nat} {ia : Option Addr} {im ic : Nat} {ta : Option Addr} {tn tc : Nat} {x : WD} {wa : Option Addr} {wn wc : Nat} {wd : List Int} {w : World} {lo hi lo' hi' L : Nat} (h : RdW lo hi w na nn nc sa sn sc ra rn rc la ln lc ia im ic ta tn tc x) (h' : Rd lo' hi' w wa wn wc wd) (hn : x.n = (L : Int)) (hhi : hi ≤ w.heap.size) (hhi' : hi' ≤ w.heap.size) (hok : worldB x = true) :
    Calls Tryz.prog 98 #[.agg #[.int .i64 L, .slice ia im ic, .slice ta tn tc, .int .i64 L, .slice na nn nc, .slice sa sn sc, .slice ra rn rc, .slice la ln lc, .slice ia im ic, .slice ta tn tc], .slice wa wn wc] w fun e w' => ∃ b2 o2 c, e = .returned (.slice (some ⟨b2, o2, none⟩) L c) ∧ ((L ≤ c ∧ c ≤ 9223372036854775807) ∧ (b2 < hi ∨ w.heap.size ≤ b2)) ∧ (∀ q, q < L → w'.cell? ⟨b2, o2 + q, none⟩ = some (.bool (flagO x.names x.sets wd q))) ∧ Below w.heap.size w w' := by
  obtain ⟨W0, hW0⟩ : ∃ W0, W0 = w.alloc (.cells #[.int .i64 L, .slice ia im ic, .slice ta tn tc, .int .i64 L, .slice na nn nc, .slice sa sn sc, .slice ra rn rc, .slice la ln lc, .slice ia im ic, .slice ta tn tc] 73) := ⟨_, rfl⟩
  have HW0 : Hid (W0 = w.alloc (.cells #[.int .i64 L, .slice ia im ic, .slice ta tn tc, .int .i64 L, .slice na nn nc, .slice sa sn sc, .slice ra rn rc, .slice la ln lc, .slice ia im ic, .slice ta tn tc] 73)) := hW0
  have hb0 : Below w.heap.size w W0 := by rw [hW0]; exact (Below.refl _ _).alloc (Nat.le_refl _) _
  have HB0 : Hid (Below w.heap.size w W0) := hb0
  have HR : Hid (RdW lo hi W0 na nn nc sa sn sc ra rn rc la ln lc ia im ic ta tn tc x) := h.below hb0 hhi
  have HW : Hid (Rd lo' hi' W0 wa wn wc wd) := h'.below hb0 hhi'
  have HI : Hid _ := (worldB_iff x).1 hok
  have HL : Hid (1 ≤ L ∧ L ≤ 16384) := by have h1 := HI.out.1.1; rw [hn] at h1; unfold Hid; omega
  have hsn : sn = nn := by have h1 := HI.out.1.2.2.2.2.1; rw [h.names.len, h.sets.len] at h1; exact h1
  subst hsn
  have HLs : Hid (∀ i, i < sn → (x.sets.getD i []).length = L) := fun i hi => by
    have h1 := flags_long HI.out.2.2.1 (i := i) (by rw [h.sets.len]; exact hi)
    rw [hn] at h1
    omega
  have HA : Hid (Asc x.names) := asc_of HI.out.2.1.1
  have HN12 : Hid (sn ≤ 1048576) := by have h1 := HI.out.1.2.1; rw [h.names.len] at h1; unfold Hid; omega
  clear h h' hb0 hW0 hn hok
  go_enter Tryz.func98, Tryz.ntmps98
  go_wp2_with fail
  rw [← HW0.out]
  refine (flagsOf_any na sn nc x.names sa sc x.sets wa wn wc wd L W0 HR.out.names HR.out.sets HW.out HA.out HN12.out HLs.out HL.out).mono ?_
  rintro e w5 ⟨b2, o2, c, rfl, hf, hc, hb5⟩
  have HC : Hid (∀ q, q < L → w5.cell? ⟨b2, o2 + q, none⟩ = some (.bool (flagO x.names x.sets wd q))) := hc
  have HB5 : Hid (Below w.heap.size w w5) := HB0.out.trans (hb5.mono HB0.out.size)
  clear hc hb5
  go_wp2_with fail
  go_ret
  exact ⟨b2, o2, c, rfl, ⟨hf.1, hf.2.imp id (fun h => Nat.le_trans HB0.out.size h)⟩, HC.out, HB5.out⟩

end Go.Proofs.YtfbokljbmihlbaaGreat
