/- Several texts in one: WdFlags0, HoldE. -/
import Derived.Test.YtnmljalcndfjmaaNG13
import Derived.Test.YtnmljalcndfjmaaNG14
import Derived.Deep.RegionHeld3
namespace Go.Proofs.Ytnmljalcndfjmaa

section
open Go.RowKit

set_option maxRecDepth 100000 in
set_option maxHeartbeats 8000000 in
theorem flagsOf_any (a : Option Addr) (n cap : Nat) (xs : List (List Int)) (sa : Option Addr) (sc : Nat) (ls : List (List Bool)) (wa : Option Addr) (wn wc : Nat) (wd : List Int) (L : Nat) (w : World) {lo hi lo' hi' lo2 hi2 : Nat} (h : RSS lo hi w a n cap xs) (h2 : RFF lo2 hi2 w sa n sc ls) (h' : Rd lo' hi' w wa wn wc wd)
    (ha : Asc xs) (hn : n ≤ 1048576) (hls : ∀ i, i < n → (ls.getD i []).length = L) (hL : 1 ≤ L ∧ L ≤ 16384) :
    Calls Try.prog 57 #[.slice a n cap, .slice sa n sc, .slice wa wn wc, .int .i64 L] w fun e w' => ∃ b2 o2 c, e = .returned (.slice (some ⟨b2, o2, none⟩) L c) ∧ ((L ≤ c ∧ c ≤ 9223372036854775807) ∧ (b2 < hi2 ∨ w.heap.size ≤ b2)) ∧ (∀ q, q < L → w'.cell? ⟨b2, o2 + q, none⟩ = some (.bool (flagO xs ls wd q))) ∧ Below w.heap.size w w' := by
  have HR : Hid (RSS lo hi w a n cap xs) := h
  have HS : Hid (RFF lo2 hi2 w sa n sc ls) := h2
  have HW : Hid (Rd lo' hi' w wa wn wc wd) := h'
  have HA : Hid (Asc xs) := ha
  have HLs : Hid (∀ i, i < n → (ls.getD i []).length = L) := hls
  have hmk := fun w : World => run_make_row' (P := Try.prog) 50 4 (.bool false) 1 Try.underlying50 Try.info4w rfl .i64 .i64 L (by omega) (by omega) w
  have HRow : Hid ((w.alloc (.cells (madeCells #[(.bool false)] L) 4)).rowIs w.heap.size 4 L (fun _ => .bool false)) := World.rowIs_made w (.bool false) L 4
  have HB0 : Hid (Below w.heap.size w (w.alloc (.cells (madeCells #[(.bool false)] L) 4))) := (Below.refl _ _).alloc (Nat.le_refl _) _
  clear h h2 h' ha hls
  go_enter Try.func57, Try.ntmps57
  go_wp2_with fail
  refine (search_any a n cap xs wa wn wc wd w HR.out HW.out HA.out hn).mono ?_
  rintro e w5 ⟨i, f, rfl, hT, hF, hw5⟩
  rw [hw5]
  clear hw5
  cases f with
  | true =>
    have hO := hT rfl
    have hin : i < n := by have := idx_of hO; rwa [HR.out.len] at this
    rcases HS.out.cells with hz | ⟨b, off, e1, _, _, hc⟩
    · omega
    · subst e1
      obtain ⟨v, c0, ea, en, ec, rfl, hr⟩ := hc i hin
      have hel : en = L := by have h1 := hr.len; have h3 := HLs.out i hin; omega
      subst hel
      have hfit := hr.fits
      rcases hr.cells with hz | ⟨b2, o2, e2, _, hb2, hc2⟩
      · omega
      · subst e2
        have HC : Hid (∀ q, q < en → w.cell? ⟨b2, o2 + q, none⟩ = some (.bool (flagO xs ls wd q))) := fun q hq => by
          obtain ⟨v2, k2, rfl⟩ := hc2 q hq
          unfold flagO
          rw [hO]
          exact k2
        have hii : (i : Int) < (n : Int) := by omega
        clear hc hr hc2 hT hF hO hmk
        go_wp2_with fail
        go_ret
        exact ⟨b2, o2, ec, rfl, ⟨hfit, .inl hb2⟩, HC.out, Below.refl _ _⟩
  | false =>
    have hO := hF rfl
    have HC : Hid (∀ q, q < L → (w.alloc (.cells (madeCells #[(.bool false)] L) 4)).cell? ⟨w.heap.size, 0 + q, none⟩ = some (.bool (flagO xs ls wd q))) := fun q hq => by
      unfold flagO
      rw [hO, Nat.zero_add]
      exact HRow.out.cell hq
    clear hT hF hO
    go_wp2_with fail
    go_ret
    exact ⟨w.heap.size, 0, L, rfl, ⟨⟨Nat.le_refl _, by omega⟩, .inr (Nat.le_refl _)⟩, HC.out, HB0.out⟩

set_option maxRecDepth 100000 in
set_option maxHeartbeats 8000000 in
theorem members_any {na : Option Addr} {nn nc : Nat} {sa : Option Addr} {sn sc : Nat} {ra : Option Addr} {rn rc : Nat} {la : Option Addr} {ln lc : Nat} {ia : Option Addr} {im ic : Nat} {ta : Option Addr} {tn tc : Nat} {x : WD} {wa : Option Addr} {wn wc : Nat} {wd : List Int} {w : World} {lo hi lo' hi' L : Nat} (h : RdW lo hi w na nn nc sa sn sc ra rn rc la ln lc ia im ic ta tn tc x) (h' : Rd lo' hi' w wa wn wc wd) (hn : x.n = (L : Int)) (hhi : hi ≤ w.heap.size) (hhi' : hi' ≤ w.heap.size) (hok : worldB x = true) :
    Calls Try.prog 37 #[.agg #[.int .i64 L, .slice ia im ic, .slice ta tn tc, .int .i64 L, .slice na nn nc, .slice sa sn sc, .slice ra rn rc, .slice la ln lc, .slice ia im ic, .slice ta tn tc], .slice wa wn wc] w fun e w' => ∃ b2 o2 c, e = .returned (.slice (some ⟨b2, o2, none⟩) L c) ∧ ((L ≤ c ∧ c ≤ 9223372036854775807) ∧ (b2 < hi ∨ w.heap.size ≤ b2)) ∧ (∀ q, q < L → w'.cell? ⟨b2, o2 + q, none⟩ = some (.bool (flagO x.names x.sets wd q))) ∧ Below w.heap.size w w' := by
  obtain ⟨W0, hW0⟩ : ∃ W0, W0 = w.alloc (.cells #[.int .i64 L, .slice ia im ic, .slice ta tn tc, .int .i64 L, .slice na nn nc, .slice sa sn sc, .slice ra rn rc, .slice la ln lc, .slice ia im ic, .slice ta tn tc] 47) := ⟨_, rfl⟩
  have HW0 : Hid (W0 = w.alloc (.cells #[.int .i64 L, .slice ia im ic, .slice ta tn tc, .int .i64 L, .slice na nn nc, .slice sa sn sc, .slice ra rn rc, .slice la ln lc, .slice ia im ic, .slice ta tn tc] 47)) := hW0
  have hb0 : Below w.heap.size w W0 := by rw [hW0]; exact (Below.refl _ _).alloc (Nat.le_refl _) _
  have HB0 : Hid (Below w.heap.size w W0) := hb0
  have HR : Hid (RdW lo hi W0 na nn nc sa sn sc ra rn rc la ln lc ia im ic ta tn tc x) := h.below hb0 hhi
  have HW : Hid (Rd lo' hi' W0 wa wn wc wd) := h'.below hb0 hhi'
  have HI : Hid _ := (worldB_iff x).1 hok
  have HL : Hid (1 ≤ L ∧ L ≤ 16384) := by have h1 := HI.out.1.1; rw [hn] at h1; unfold Hid; omega
  have hsn : sn = nn := by have h1 := HI.out.1.2.2.2.2.1; rw [h.names.len, h.sets.len] at h1; exact h1
  subst hsn
  have HLs : Hid (∀ i, i < sn → (x.sets.getD i []).length = L) := fun i hi => by
    have h1 := flags_long HI.out.2.2.1 (i := i) (by rw [h.sets.len]; exact hi)
    rw [hn] at h1
    omega
  have HA : Hid (Asc x.names) := asc_of HI.out.2.1.1
  have HN12 : Hid (sn ≤ 1048576) := by have h1 := HI.out.1.2.1; rw [h.names.len] at h1; unfold Hid; omega
  clear h h' hb0 hW0 hn hok
  go_enter Try.func37, Try.ntmps37
  go_wp2_with fail
  rw [← HW0.out]
  refine (flagsOf_any na sn nc x.names sa sc x.sets wa wn wc wd L W0 HR.out.names HR.out.sets HW.out HA.out HN12.out HLs.out HL.out).mono ?_
  rintro e w5 ⟨b2, o2, c, rfl, hf, hc, hb5⟩
  have HC : Hid (∀ q, q < L → w5.cell? ⟨b2, o2 + q, none⟩ = some (.bool (flagO x.names x.sets wd q))) := hc
  have HB5 : Hid (Below w.heap.size w w5) := HB0.out.trans (hb5.mono HB0.out.size)
  clear hc hb5
  go_wp2_with fail
  go_ret
  exact ⟨b2, o2, c, rfl, ⟨hf.1, hf.2.imp id (fun h => Nat.le_trans HB0.out.size h)⟩, HC.out, HB5.out⟩
end

section
open Go.RowKit Go.Deep
set_option linter.unusedVariables false

def partF (f : Nat → Bool) (k i : Nat) : Value := .bool (if i < k then f i else false)

theorem rowF_step {w : World} {g n : Nat} {f : Nat → Bool} {k : Nat} (h : w.rowIs g 4 n (partF f k)) : (w.setCell ⟨g, k, none⟩ (.bool (f k))).rowIs g 4 n (partF f (k + 1)) := by
  refine (h.set k _).congr fun i _ => ?_
  unfold partF
  by_cases e : i = k
  · subst e; simp
  · rw [if_neg e]
    congr 1
    by_cases h1 : i < k
    · rw [if_pos h1, if_pos (by omega)]
    · rw [if_neg h1, if_neg (by omega)]

/-- Flags in memory. -/
def FlS (w : World) (b o : Nat) (L : Nat) (f : Nat → Bool) : Prop := b < w.heap.size ∧ ∀ q, q < L → w.cell? ⟨b, o + q, none⟩ = some (.bool (f q))
theorem FlS.below {w w' : World} {b o L : Nat} {f : Nat → Bool} (h : FlS w b o L f) (hb : Below w.heap.size w w') : FlS w' b o L f :=
  ⟨Nat.lt_of_lt_of_le h.1 hb.size, fun q hq => (hb.cell (p := ⟨b, o + q, none⟩) h.1).trans (h.2 q hq)⟩

set_option maxRecDepth 100000 in
set_option maxHeartbeats 4000000 in
/-- For whatever function that answers at every element. -/
theorem each_any (F : Nat) (cp : Array Value) (f : Nat → Bool) (L : Nat) {ia : Option Addr} {im ic : Nat} {ta : Option Addr} {tn tc : Nat} (w : World) (hL : L ≤ 128)
    (hen : ∀ (args : Array Value) (V : World), (callFunc F args).run Try.prog V = .ok (.enter F args) V)
    (hg : ∀ (e : Nat) (V : World), e < L → Below w.heap.size w V → Calls Try.prog F (#[.int .i64 e] ++ cp) V fun r w' => r = .returned (.bool (f e)) ∧ Below V.heap.size V w') :
    Calls Try.prog 35 #[.agg #[.int .i64 L, .slice ia im ic, .slice ta tn tc], .func (.func F) #[] cp] w fun r w' => ∃ g, r = .returned (.slice (some ⟨g, 0, none⟩) L L) ∧ w.heap.size ≤ g ∧ FlS w' g 0 L f ∧ Below w.heap.size w w' := by
  have HG : Hid (∀ (e : Nat) (V : World), e < L → Below w.heap.size w V → Calls Try.prog F (#[.int .i64 e] ++ cp) V fun r w' => r = .returned (.bool (f e)) ∧ Below V.heap.size V w') := hg
  obtain ⟨W0, hW0⟩ : ∃ W0, W0 = w.alloc (.cells #[.int .i64 L, .slice ia im ic, .slice ta tn tc] 45) := ⟨_, rfl⟩
  have HW0 : Hid (W0 = w.alloc (.cells #[.int .i64 L, .slice ia im ic, .slice ta tn tc] 45)) := hW0
  have hs0 : w.heap.size < W0.heap.size := by rw [hW0]; simp
  have hb0 : Below w.heap.size w W0 := by rw [hW0]; exact (Below.refl _ _).alloc (Nat.le_refl _) _
  have z0 : W0.cell? ⟨w.heap.size, 0, none⟩ = some (.int .i64 L) := by rw [hW0]; simp
  have HB1 : Hid (Below w.heap.size w (W0.alloc (.cells (madeCells #[.bool false] L) 4))) := hb0.alloc (by omega) _
  have HR1 : Hid ((W0.alloc (.cells (madeCells #[.bool false] L) 4)).rowIs W0.heap.size 4 L (partF f 0)) := (World.rowIs_made W0 (.bool false) L 4).congr (fun i _ => by simp [partF])
  have hmk := run_make_row' (P := Try.prog) 50 4 (.bool false) 1 Try.underlying50 Try.info4w rfl .i64 .i64 L (by omega) (by omega) W0
  clear hg hb0 hW0
  go_enter Try.func35, Try.ntmps35
  go_upto_region 1 with fail
  rw [← HW0.out]
  go_wp2_with fail
  clear hmk z0
  go_loopw [12] (fun i wr => ∃ k : Nat, k ≤ L ∧ i = .int .i64 k ∧ wr.rowIs W0.heap.size 4 L (partF f k) ∧ Below w.heap.size w wr) (fun i _ => L - (intOf i).toNat)
  case atStart => exact ⟨0, Nat.zero_le _, rfl, HR1.out, HB1.out⟩
  case round =>
    obtain ⟨k, hk, rfl, hrow, hbel⟩ := hrel
    have HRow : Hid (wr.rowIs W0.heap.size 4 L (partF f k)) := hrow
    have HBe : Hid (Below w.heap.size w wr) := hbel
    have hszr := hbel.size
    have hgl := hrow.lt
    clear hrow hbel
    by_cases hlt : k < L
    · have hki : (k : Int) < (L : Int) := by omega
      go_wp2_with fail
      refine (HG.out k wr hlt HBe.out).mono ?_
      rintro r w5 ⟨rfl, hb5⟩
      have hrow5 : w5.rowIs W0.heap.size 4 L (partF f k) := HRow.out.of_block (hb5.block _ hgl)
      have hfz := hrow5.frozen k
      obtain ⟨fk, hfk⟩ : ∃ fk, fk = f k := ⟨_, rfl⟩
      have hold : w5.cell? ⟨W0.heap.size, k, none⟩ = some (.bool false) := by have := hrow5.cell hlt; simpa [partF] using this
      have HR : Hid ((w5.setCell ⟨W0.heap.size, k, none⟩ (.bool fk)).rowIs W0.heap.size 4 L (partF f (k + 1))) := by unfold Hid; rw [hfk]; exact rowF_step hrow5
      have HB5 : Hid (Below w.heap.size w w5) := HBe.out.trans (hb5.mono hszr)
      have HB : Hid (Below w.heap.size w (w5.setCell ⟨W0.heap.size, k, none⟩ (.bool fk))) := HB5.out.setCell (by show w.heap.size ≤ W0.heap.size; omega) _
      rw [← hfk]
      clear hrow5 hb5 hfk
      go_wp2_with fail
      go_roundw
      case rel => exact ⟨k + 1, by omega, by go_num, HR.out, HB.out⟩
      case measure => simp [intOf]; omega
    · have HF : Hid (FlS wr W0.heap.size 0 L f) := by
        refine ⟨hgl, fun q hq => ?_⟩
        rw [Nat.zero_add, HRow.out.cell hq]
        simp [partF, show q < k by omega]
      go_wp2_with fail
      go_ret
      exact ⟨_, rfl, Nat.le_of_lt hs0, HF.out, HBe.out⟩

set_option maxRecDepth 100000 in
set_option maxHeartbeats 4000000 in
theorem meets_any {L : Nat} (hL : L ≤ 16384) {ab ao ac bb bo bc : Nat} {fa fb : Nat → Bool} {w : World} (ha : FlS w ab ao L fa) (hb : FlS w bb bo L fb) (hac : L ≤ ac ∧ ac ≤ 9223372036854775807) (hbc : L ≤ bc ∧ bc ≤ 9223372036854775807) :
    Calls Try.prog 42 #[.slice (some ⟨ab, ao, none⟩) L ac, .slice (some ⟨bb, bo, none⟩) L bc] w fun r w' => r = .returned (.bool ((List.range L).any (fun y => fa y && fb y))) ∧ w' = w := by
  have HA : Hid (FlS w ab ao L fa) := ha
  have HB : Hid (FlS w bb bo L fb) := hb
  clear ha hb
  go_enter Try.func42, Try.ntmps42
  go_wp2_with fail
  go_loopw [8] (fun i wr => ∃ k : Nat, k ≤ L ∧ i = .int .i64 k ∧ (∀ j, j < k → (fa j && fb j) = false) ∧ wr = w) (fun i _ => L - (intOf i).toNat)
  case atStart => exact ⟨0, Nat.zero_le _, rfl, fun j hj => by omega, rfl⟩
  case round =>
    obtain ⟨k, hk, rfl, hall, rfl⟩ := hrel
    have HAll : Hid (∀ j, j < k → (fa j && fb j) = false) := hall
    clear hall
    by_cases hlt : k < L
    · have hki : (k : Int) < (L : Int) := by omega
      obtain ⟨x0, hx0⟩ : ∃ b, b = fa k := ⟨_, rfl⟩
      obtain ⟨y0, hy0⟩ : ∃ b, b = fb k := ⟨_, rfl⟩
      have HX : Hid (x0 = fa k) := hx0
      have HY : Hid (y0 = fb k) := hy0
      have c0 := HA.out.2 k hlt
      have c1 := HB.out.2 k hlt
      rw [← hx0] at c0
      rw [← hy0] at c1
      have HNext : Hid ((fa k && fb k) = false → ∀ j, j < k + 1 → (fa j && fb j) = false) := fun hb j hj => by
        by_cases e' : j = k
        · subst e'; exact hb
        · exact HAll.out j (by omega)
      clear hx0 hy0
      cases x0
      · cases y0
        · have HN : Hid (∀ j, j < k + 1 → (fa j && fb j) = false) := HNext.out (by rw [← HX.out, ← HY.out]; rfl)
          go_wp2_with fail
          go_roundw
          case rel => exact ⟨k + 1, by omega, by go_num, HN.out, by first | rfl | trivial⟩
          case measure => simp [intOf]; omega
        · have HN : Hid (∀ j, j < k + 1 → (fa j && fb j) = false) := HNext.out (by rw [← HX.out, ← HY.out]; rfl)
          go_wp2_with fail
          go_roundw
          case rel => exact ⟨k + 1, by omega, by go_num, HN.out, by first | rfl | trivial⟩
          case measure => simp [intOf]; omega
      · cases y0
        · have HN : Hid (∀ j, j < k + 1 → (fa j && fb j) = false) := HNext.out (by rw [← HX.out, ← HY.out]; rfl)
          go_wp2_with fail
          go_roundw
          case rel => exact ⟨k + 1, by omega, by go_num, HN.out, by first | rfl | trivial⟩
          case measure => simp [intOf]; omega
        · have HN : Hid (((List.range L).any (fun y => fa y && fb y)) = true) := by
            unfold Hid
            rw [List.any_eq_true]
            refine ⟨k, List.mem_range.2 hlt, ?_⟩
            rw [← HX.out, ← HY.out]
            decide
          go_wp2_with fail
          go_ret
          exact ⟨rb HN.out.symm, rfl⟩
    · have HN : Hid (((List.range L).any (fun y => fa y && fb y)) = false) := by
        unfold Hid
        rw [List.any_eq_false]
        intro j hj
        have := HAll.out j (by have := List.mem_range.1 hj; omega)
        revert this
        cases fa j <;> cases fb j <;> decide
      go_wp2_with fail
      go_ret
      exact ⟨rb HN.out.symm, rfl⟩

set_option maxRecDepth 100000 in
set_option maxHeartbeats 4000000 in
theorem within_any {L : Nat} (hL : L ≤ 16384) {ab ao ac bb bo bc : Nat} {fa fb : Nat → Bool} {w : World} (ha : FlS w ab ao L fa) (hb : FlS w bb bo L fb) (hac : L ≤ ac ∧ ac ≤ 9223372036854775807) (hbc : L ≤ bc ∧ bc ≤ 9223372036854775807) :
    Calls Try.prog 44 #[.slice (some ⟨ab, ao, none⟩) L ac, .slice (some ⟨bb, bo, none⟩) L bc] w fun r w' => r = .returned (.bool ((List.range L).all (fun y => !(fa y) || fb y))) ∧ w' = w := by
  have HA : Hid (FlS w ab ao L fa) := ha
  have HB : Hid (FlS w bb bo L fb) := hb
  clear ha hb
  go_enter Try.func44, Try.ntmps44
  go_wp2_with fail
  go_loopw [8] (fun i wr => ∃ k : Nat, k ≤ L ∧ i = .int .i64 k ∧ (∀ j, j < k → (fa j && !(fb j)) = false) ∧ wr = w) (fun i _ => L - (intOf i).toNat)
  case atStart => exact ⟨0, Nat.zero_le _, rfl, fun j hj => by omega, rfl⟩
  case round =>
    obtain ⟨k, hk, rfl, hall, rfl⟩ := hrel
    have HAll : Hid (∀ j, j < k → (fa j && !(fb j)) = false) := hall
    clear hall
    by_cases hlt : k < L
    · have hki : (k : Int) < (L : Int) := by omega
      obtain ⟨x0, hx0⟩ : ∃ b, b = fa k := ⟨_, rfl⟩
      obtain ⟨y0, hy0⟩ : ∃ b, b = fb k := ⟨_, rfl⟩
      have HX : Hid (x0 = fa k) := hx0
      have HY : Hid (y0 = fb k) := hy0
      have c0 := HA.out.2 k hlt
      have c1 := HB.out.2 k hlt
      rw [← hx0] at c0
      rw [← hy0] at c1
      have HNext : Hid ((fa k && !(fb k)) = false → ∀ j, j < k + 1 → (fa j && !(fb j)) = false) := fun hb j hj => by
        by_cases e' : j = k
        · subst e'; exact hb
        · exact HAll.out j (by omega)
      clear hx0 hy0
      cases x0
      · cases y0
        · have HN : Hid (∀ j, j < k + 1 → (fa j && !(fb j)) = false) := HNext.out (by rw [← HX.out, ← HY.out]; rfl)
          go_wp2_with fail
          go_roundw
          case rel => exact ⟨k + 1, by omega, by go_num, HN.out, by first | rfl | trivial⟩
          case measure => simp [intOf]; omega
        · have HN : Hid (∀ j, j < k + 1 → (fa j && !(fb j)) = false) := HNext.out (by rw [← HX.out, ← HY.out]; rfl)
          go_wp2_with fail
          go_roundw
          case rel => exact ⟨k + 1, by omega, by go_num, HN.out, by first | rfl | trivial⟩
          case measure => simp [intOf]; omega
      · cases y0
        · have HN : Hid (((List.range L).all (fun y => !(fa y) || fb y)) = false) := by
            unfold Hid
            rw [List.all_eq_false]
            refine ⟨k, List.mem_range.2 hlt, ?_⟩
            rw [← HX.out, ← HY.out]
            decide
          go_wp2_with fail
          go_ret
          exact ⟨rb HN.out.symm, rfl⟩
        · have HN : Hid (∀ j, j < k + 1 → (fa j && !(fb j)) = false) := HNext.out (by rw [← HX.out, ← HY.out]; rfl)
          go_wp2_with fail
          go_roundw
          case rel => exact ⟨k + 1, by omega, by go_num, HN.out, by first | rfl | trivial⟩
          case measure => simp [intOf]; omega
    · have HN : Hid (((List.range L).all (fun y => !(fa y) || fb y)) = true) := by
        unfold Hid
        rw [List.all_eq_true]
        intro j hj
        have := HAll.out j (by have := List.mem_range.1 hj; omega)
        revert this
        cases fa j <;> cases fb j <;> decide
      go_wp2_with fail
      go_ret
      exact ⟨rb HN.out.symm, rfl⟩
end

end Go.Proofs.Ytnmljalcndfjmaa
