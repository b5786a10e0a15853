/- Several texts in one: WdSearch0, WdFlags0, HoldE, TokFin. -/
import Derived.Test.YtnmljalcndfjmaaGreatNG12
import Derived.Test.YtnmljalcndfjmaaGreatNG9
import Derived.Test.YtnmljalcndfjmaaGreatNG2
import Derived.Test.YtnmljalcndfjmaaGreatNG13
import Derived.Deep.RegionHeld3
import Derived.Test.YtnmljalcndfjmaaGreatImplTok4
namespace Go.Proofs.YtnmljalcndfjmaaGreat

section
open Go.RowKit

theorem less_trans : ∀ a b c : List UInt8, Op.bytesLess a b = true → Op.bytesLess b c = true → Op.bytesLess a c = true
  | _, _, [], _, h => by simp [Op.bytesLess] at h
  | [], _, c :: cs, _, _ => by simp [Op.bytesLess]
  | a :: xs, [], _ :: _, h, _ => by simp [Op.bytesLess] at h
  | a :: xs, b :: bs, c :: cs, h1, h2 => by
    have ih := less_trans xs bs cs
    simp only [Op.bytesLess, Bool.or_eq_true, decide_eq_true_eq, Bool.and_eq_true, beq_iff_eq] at h1 h2 ⊢
    rcases h1 with h1 | ⟨rfl, h1⟩
    · rcases h2 with h2 | ⟨rfl, h2⟩
      · exact .inl (UInt8.lt_trans h1 h2)
      · exact .inl h1
    · rcases h2 with h2 | ⟨rfl, h2⟩
      · exact .inl h2
      · exact .inr ⟨rfl, ih h1 h2⟩

def Asc (l : List (List Int)) : Prop := ∀ j i, i < j → j < l.length → ltB (l.getD i []) (l.getD j []) = true

theorem asc_of {up : Bool} {l : List (List Int)} (h : namesB up l = true) : Asc l := by
  unfold namesB at h
  rw [List.all_eq_true] at h
  have hs : ∀ j, j + 1 < l.length → ltB (l.getD j []) (l.getD (j + 1) []) = true := fun j hj => by
    have := h (j + 1) (by simpa using hj)
    simp [nameAt] at this
    simpa using this.2
  intro j
  induction j with
  | zero => intro i hi; omega
  | succ j ih =>
    intro i hi hj
    by_cases e : i = j
    · subst e; exact hs i hj
    · exact less_trans _ _ _ (ih i (by omega) (by omega)) (hs j hj)

theorem hit_not {l : List (List Int)} {wd : List Int} {i : Nat} (h : ltB (l.getD i []) wd = true) : hit l wd i = false := by
  unfold hit keyL
  cases e : ((strOfNums (l.getD i [])).toList == (strOfNums wd).toList)
  · rfl
  · have e2 : (strOfNums (l.getD i [])).toList = (strOfNums wd).toList := by simpa using e
    unfold ltB at h
    rw [e2, less_self] at h
    exact absurd h (by simp)

theorem cmp_zero (xs ys : List Int) : decide (cmpZ xs ys = 0) = ((strOfNums xs).toList == (strOfNums ys).toList) := by
  unfold cmpZ
  rw [← less_cmp]
  cases h : ((strOfNums xs).toList == (strOfNums ys).toList)
  · cases h1 : Op.bytesLess (strOfNums xs).toList (strOfNums ys).toList
    · have := less_tri _ _ h1 h
      simp [this]
    · simp
  · have e2 : (strOfNums xs).toList = (strOfNums ys).toList := by simpa using h
    rw [e2, less_self]
    simp

theorem search_end {l : List (List Int)} {wd : List Int} {p : Nat} (ha : Asc l) (h1 : ∀ t, t < p → ltB (l.getD t []) wd = true) (h2 : ∀ t, p ≤ t → t < l.length → ltB (l.getD t []) wd = false) (h3 : p < l.length → hit l wd p = false) : idxO l wd = none := by
  refine idx_none fun i hi => ?_
  by_cases hp : i < p
  · exact hit_not (h1 i hp)
  · by_cases e : i = p
    · subst e; exact h3 hi
    · cases he : hit l wd i
      · rfl
      · have hk : keyL (l.getD i []) = keyL wd := by simpa [hit] using he
        have h4 := ha i p (by omega) hi
        have h5 := h2 p (Nat.le_refl _) (by omega)
        unfold ltB at h4 h5
        unfold keyL at hk
        rw [hk, h5] at h4
        exact absurd h4 (by simp)

set_option maxRecDepth 100000 in
set_option maxHeartbeats 8000000 in
theorem search_any (a : Option Addr) (n cap : Nat) (xs : List (List Int)) (wa : Option Addr) (wn wc : Nat) (wd : List Int) (w : World) {lo hi lo' hi' : Nat} (h : RSS lo hi w a n cap xs) (h' : Rd lo' hi' w wa wn wc wd) (ha : Asc xs) (hn : n ≤ 1048576) :
    Calls Tryz.prog 149 #[.slice a n cap, .slice wa wn wc, .func (.func 121) #[] #[]] w fun e w' => ∃ (i : Nat) (f : Bool), e = .returned (.tuple #[.int .i64 i, .bool f]) ∧ (f = true → idxO xs wd = some i) ∧ (f = false → idxO xs wd = none) ∧ w' = w := by
  have HR : Hid (RSS lo hi w a n cap xs) := h
  have HW : Hid (Rd lo' hi' w wa wn wc wd) := h'
  have HL : Hid (xs.length = n) := h.len
  have HA : Hid (Asc xs) := ha
  clear h h' ha
  go_enter Tryz.func149, Tryz.ntmps149
  go_wp2_with fail
  go_loopw [9, 10] (fun s9 s10 wr => ∃ p q : Nat, s9 = .int .i64 p ∧ s10 = .int .i64 q ∧ p ≤ q ∧ q ≤ n ∧ (∀ t, t < p → ltB (xs.getD t []) wd = true) ∧ (∀ t, q ≤ t → t < xs.length → ltB (xs.getD t []) wd = false) ∧ wr = w) (fun s9 s10 _ => (intOf s10).toNat - (intOf s9).toNat)
  case atStart => exact ⟨0, n, rfl, rfl, Nat.zero_le _, Nat.le_refl _, fun t ht => by omega, fun t h1 h2 => by rw [HL.out] at h2; omega, rfl⟩
  case round =>
    obtain ⟨p, q, rfl, rfl, hpq, hqn, hlow, hhigh, hwr⟩ := hrel
    subst hwr
    have HLow : Hid (∀ t, t < p → ltB (xs.getD t []) wd = true) := hlow
    have HHigh : Hid (∀ t, q ≤ t → t < xs.length → ltB (xs.getD t []) wd = false) := hhigh
    clear hlow hhigh
    by_cases hlt : p < q
    · rcases HR.out.cells with hz | ⟨b, off, e1, _, _, hc⟩
      · omega
      · subst e1
        obtain ⟨v, c0, ea, en, ec, rfl, hr⟩ := hc ((p + q) / 2) (by omega)
        have HE : Hid (Rd lo hi wr ea en ec (xs.getD ((p + q) / 2) [])) := hr
        obtain ⟨cv, hcv⟩ : ∃ cv, cmpZ (xs.getD ((p + q) / 2) []) wd = cv := ⟨_, rfl⟩
        have HCv : Hid (cmpZ (xs.getD ((p + q) / 2) []) wd = cv) := hcv
        have HLt : Hid (decide (0 ≤ cv) = !(ltB (xs.getD ((p + q) / 2) []) wd)) := by unfold Hid; rw [← hcv]; exact cmp_lt _ _
        clear hc hr hcv
        by_cases h0 : cv < 0
        · have HT : Hid (ltB (xs.getD ((p + q) / 2) []) wd = true) := by
            have := HLt.out
            rw [decide_eq_false (by omega)] at this
            unfold Hid
            cases e : ltB (xs.getD ((p + q) / 2) []) wd
            · rw [e] at this; exact absurd this (by simp)
            · rfl
          have HLow2 : Hid (∀ t, t < (p + q) / 2 + 1 → ltB (xs.getD t []) wd = true) := fun t ht => by
            by_cases e : t = (p + q) / 2
            · rw [e]; exact HT.out
            · exact less_trans _ _ _ (HA.out ((p + q) / 2) t (by omega) (by rw [HL.out]; omega)) HT.out
          go_wp2_with (go_at_call 121; refine (bytesCompare_any HE.out HW.out).mono ?_; rintro e w5 ⟨rfl, hw5⟩; rw [hw5, HCv.out]; clear hw5)
          go_roundw
          case rel => exact ⟨(p + q) / 2 + 1, q, by rw [show ((p : Int) + (q : Int)) / 2 + 1 = (((p + q) / 2 + 1 : Nat) : Int) by omega], rfl, by omega, hqn, HLow2.out, HHigh.out, by first | rfl | trivial⟩
          case measure => simp [intOf]; omega
        · have hge : 0 ≤ cv := by omega
          have HT : Hid (ltB (xs.getD ((p + q) / 2) []) wd = false) := by
            have := HLt.out
            rw [decide_eq_true hge] at this
            unfold Hid
            cases e : ltB (xs.getD ((p + q) / 2) []) wd
            · rfl
            · rw [e] at this; exact absurd this (by simp)
          have HHigh2 : Hid (∀ t, (p + q) / 2 ≤ t → t < xs.length → ltB (xs.getD t []) wd = false) := fun t h1 h2 => by
            by_cases e : t = (p + q) / 2
            · rw [e]; exact HT.out
            · cases e2 : ltB (xs.getD t []) wd
              · rfl
              · have := less_trans _ _ _ (HA.out t ((p + q) / 2) (by omega) h2) e2
                have h3 := HT.out
                unfold ltB at h3
                rw [h3] at this
                exact absurd this (by simp)
          go_wp2_with (go_at_call 121; refine (bytesCompare_any HE.out HW.out).mono ?_; rintro e w5 ⟨rfl, hw5⟩; rw [hw5, HCv.out]; clear hw5)
          go_roundw
          case rel => exact ⟨p, (p + q) / 2, rfl, by rw [show ((p : Int) + (q : Int)) / 2 = (((p + q) / 2 : Nat) : Int) by omega], by omega, by omega, HLow.out, HHigh2.out, by first | rfl | trivial⟩
          case measure => simp [intOf]; omega
    · have HPQ : Hid (p = q) := by unfold Hid; omega
      have hd : decide ((p : Int) < (q : Int)) = false := by simp; omega
      have hd' : decide (p < q) = false := by simp; omega
      by_cases hpn : p < n
      · rcases HR.out.cells with hz | ⟨b, off, e1, _, _, hc⟩
        · omega
        · subst e1
          obtain ⟨v, c0, ea, en, ec, rfl, hr⟩ := hc p hpn
          have HE : Hid (Rd lo hi wr ea en ec (xs.getD p [])) := hr
          obtain ⟨cv, hcv⟩ : ∃ cv, cmpZ (xs.getD p []) wd = cv := ⟨_, rfl⟩
          have HCv : Hid (cmpZ (xs.getD p []) wd = cv) := hcv
          have HEq : Hid (decide (cv = 0) = hit xs wd p) := by unfold Hid; rw [← hcv]; exact cmp_zero _ _
          have hpi : (p : Int) < (n : Int) := by omega
          clear hc hr hcv hlt
          by_cases h0 : cv = 0
          · have HG : Hid (idxO xs wd = some p) := idx_some (by rw [HL.out]; exact hpn) (by rw [← HEq.out]; exact decide_eq_true h0) (fun j hj => hit_not (HLow.out j hj))
            subst h0
            go_wp2_with (go_at_call 121; refine (bytesCompare_any HE.out HW.out).mono ?_; rintro e w5 ⟨rfl, hw5⟩; rw [hw5, HCv.out]; clear hw5)
            refine bodyPost_ret (v := .tuple #[.int .i64 p, .bool true]) (by simp [results, Tryz.results149, go_sem]) rfl ?_
            exact ⟨p, true, rfl, fun _ => HG.out, fun h => by simp at h, rfl⟩
          · have hd0 : (cv == 0) = false := by simpa using h0
            have hd1 : decide (cv = 0) = false := decide_eq_false h0
            have HG : Hid (idxO xs wd = none) := search_end HA.out HLow.out (by rw [HPQ.out]; exact HHigh.out) (fun _ => by rw [← HEq.out]; exact hd1)
            go_wp2_with (go_at_call 121; refine (bytesCompare_any HE.out HW.out).mono ?_; rintro e w5 ⟨rfl, hw5⟩; rw [hw5, HCv.out]; clear hw5)
            refine bodyPost_ret (v := .tuple #[.int .i64 p, .bool false]) (by simp [results, Tryz.results149, go_sem]) rfl ?_
            exact ⟨p, false, rfl, fun h => by simp at h, fun _ => HG.out, rfl⟩
      · have hdn : decide ((p : Int) < (n : Int)) = false := by simp; omega
        have hdn' : decide (p < n) = false := by simp; omega
        have HG : Hid (idxO xs wd = none) := search_end HA.out HLow.out (by rw [HPQ.out]; exact HHigh.out) (fun h => by rw [HL.out] at h; omega)
        clear hlt hpn
        go_wp2_with fail
        refine bodyPost_ret (v := .tuple #[.int .i64 p, .bool false]) (by simp [results, Tryz.results149, go_sem]) rfl ?_
        exact ⟨p, false, rfl, fun h => by simp at h, fun _ => HG.out, rfl⟩
end

section
open Go.RowKit

set_option maxRecDepth 100000 in
set_option maxHeartbeats 8000000 in
theorem flagsOf_any (a : Option Addr) (n cap : Nat) (xs : List (List Int)) (sa : Option Addr) (sc : Nat) (ls : List (List Bool)) (wa : Option Addr) (wn wc : Nat) (wd : List Int) (L : Nat) (w : World) {lo hi lo' hi' lo2 hi2 : Nat} (h : RSS lo hi w a n cap xs) (h2 : RFF lo2 hi2 w sa n sc ls) (h' : Rd lo' hi' w wa wn wc wd)
    (ha : Asc xs) (hn : n ≤ 1048576) (hls : ∀ i, i < n → (ls.getD i []).length = L) (hL : 1 ≤ L ∧ L ≤ 16384) :
    Calls Tryz.prog 136 #[.slice a n cap, .slice sa n sc, .slice wa wn wc, .int .i64 L] w fun e w' => ∃ b2 o2 c, e = .returned (.slice (some ⟨b2, o2, none⟩) L c) ∧ ((L ≤ c ∧ c ≤ 9223372036854775807) ∧ (b2 < hi2 ∨ w.heap.size ≤ b2)) ∧ (∀ q, q < L → w'.cell? ⟨b2, o2 + q, none⟩ = some (.bool (flagO xs ls wd q))) ∧ Below w.heap.size w w' := by
  have HR : Hid (RSS lo hi w a n cap xs) := h
  have HS : Hid (RFF lo2 hi2 w sa n sc ls) := h2
  have HW : Hid (Rd lo' hi' w wa wn wc wd) := h'
  have HA : Hid (Asc xs) := ha
  have HLs : Hid (∀ i, i < n → (ls.getD i []).length = L) := hls
  have hmk := fun w : World => run_make_row' (P := Tryz.prog) 63 4 (.bool false) 1 Tryz.underlying63 Tryz.info4w rfl .i64 .i64 L (by omega) (by omega) w
  have HRow : Hid ((w.alloc (.cells (madeCells #[(.bool false)] L) 4)).rowIs w.heap.size 4 L (fun _ => .bool false)) := World.rowIs_made w (.bool false) L 4
  have HB0 : Hid (Below w.heap.size w (w.alloc (.cells (madeCells #[(.bool false)] L) 4))) := (Below.refl _ _).alloc (Nat.le_refl _) _
  clear h h2 h' ha hls
  go_enter Tryz.func136, Tryz.ntmps136
  go_wp2_with fail
  refine (search_any a n cap xs wa wn wc wd w HR.out HW.out HA.out hn).mono ?_
  rintro e w5 ⟨i, f, rfl, hT, hF, hw5⟩
  rw [hw5]
  clear hw5
  cases f with
  | true =>
    have hO := hT rfl
    have hin : i < n := by have := idx_of hO; rwa [HR.out.len] at this
    rcases HS.out.cells with hz | ⟨b, off, e1, _, _, hc⟩
    · omega
    · subst e1
      obtain ⟨v, c0, ea, en, ec, rfl, hr⟩ := hc i hin
      have hel : en = L := by have h1 := hr.len; have h3 := HLs.out i hin; omega
      subst hel
      have hfit := hr.fits
      rcases hr.cells with hz | ⟨b2, o2, e2, _, hb2, hc2⟩
      · omega
      · subst e2
        have HC : Hid (∀ q, q < en → w.cell? ⟨b2, o2 + q, none⟩ = some (.bool (flagO xs ls wd q))) := fun q hq => by
          obtain ⟨v2, k2, rfl⟩ := hc2 q hq
          unfold flagO
          rw [hO]
          exact k2
        have hii : (i : Int) < (n : Int) := by omega
        clear hc hr hc2 hT hF hO hmk
        go_wp2_with fail
        go_ret
        exact ⟨b2, o2, ec, rfl, ⟨hfit, .inl hb2⟩, HC.out, Below.refl _ _⟩
  | false =>
    have hO := hF rfl
    have HC : Hid (∀ q, q < L → (w.alloc (.cells (madeCells #[(.bool false)] L) 4)).cell? ⟨w.heap.size, 0 + q, none⟩ = some (.bool (flagO xs ls wd q))) := fun q hq => by
      unfold flagO
      rw [hO, Nat.zero_add]
      exact HRow.out.cell hq
    clear hT hF hO
    go_wp2_with fail
    go_ret
    exact ⟨w.heap.size, 0, L, rfl, ⟨⟨Nat.le_refl _, by omega⟩, .inr (Nat.le_refl _)⟩, HC.out, HB0.out⟩

set_option maxRecDepth 100000 in
set_option maxHeartbeats 8000000 in
theorem members_any {na : Option Addr} {nn nc : Nat} {sa : Option Addr} {sn sc : Nat} {ra : Option Addr} {rn rc : Nat} {la : Option Addr} {ln lc : Nat} {ia : Option Addr} {im ic : Nat} {ta : Option Addr} {tn tc : Nat} {x : WD} {wa : Option Addr} {wn wc : Nat} {wd : List Int} {w : World} {lo hi lo' hi' L : Nat} (h : RdW lo hi w na nn nc sa sn sc ra rn rc la ln lc ia im ic ta tn tc x) (h' : Rd lo' hi' w wa wn wc wd) (hn : x.n = (L : Int)) (hhi : hi ≤ w.heap.size) (hhi' : hi' ≤ w.heap.size) (hok : worldB x = true) :
    Calls Tryz.prog 87 #[.agg #[.int .i64 L, .slice ia im ic, .slice ta tn tc, .int .i64 L, .slice na nn nc, .slice sa sn sc, .slice ra rn rc, .slice la ln lc, .slice ia im ic, .slice ta tn tc], .slice wa wn wc] w fun e w' => ∃ b2 o2 c, e = .returned (.slice (some ⟨b2, o2, none⟩) L c) ∧ ((L ≤ c ∧ c ≤ 9223372036854775807) ∧ (b2 < hi ∨ w.heap.size ≤ b2)) ∧ (∀ q, q < L → w'.cell? ⟨b2, o2 + q, none⟩ = some (.bool (flagO x.names x.sets wd q))) ∧ Below w.heap.size w w' := by
  obtain ⟨W0, hW0⟩ : ∃ W0, W0 = w.alloc (.cells #[.int .i64 L, .slice ia im ic, .slice ta tn tc, .int .i64 L, .slice na nn nc, .slice sa sn sc, .slice ra rn rc, .slice la ln lc, .slice ia im ic, .slice ta tn tc] 74) := ⟨_, rfl⟩
  have HW0 : Hid (W0 = w.alloc (.cells #[.int .i64 L, .slice ia im ic, .slice ta tn tc, .int .i64 L, .slice na nn nc, .slice sa sn sc, .slice ra rn rc, .slice la ln lc, .slice ia im ic, .slice ta tn tc] 74)) := hW0
  have hb0 : Below w.heap.size w W0 := by rw [hW0]; exact (Below.refl _ _).alloc (Nat.le_refl _) _
  have HB0 : Hid (Below w.heap.size w W0) := hb0
  have HR : Hid (RdW lo hi W0 na nn nc sa sn sc ra rn rc la ln lc ia im ic ta tn tc x) := h.below hb0 hhi
  have HW : Hid (Rd lo' hi' W0 wa wn wc wd) := h'.below hb0 hhi'
  have HI : Hid _ := (worldB_iff x).1 hok
  have HL : Hid (1 ≤ L ∧ L ≤ 16384) := by have h1 := HI.out.1.1; rw [hn] at h1; unfold Hid; omega
  have hsn : sn = nn := by have h1 := HI.out.1.2.2.2.2.1; rw [h.names.len, h.sets.len] at h1; exact h1
  subst hsn
  have HLs : Hid (∀ i, i < sn → (x.sets.getD i []).length = L) := fun i hi => by
    have h1 := flags_long HI.out.2.2.1 (i := i) (by rw [h.sets.len]; exact hi)
    rw [hn] at h1
    omega
  have HA : Hid (Asc x.names) := asc_of HI.out.2.1.1
  have HN12 : Hid (sn ≤ 1048576) := by have h1 := HI.out.1.2.1; rw [h.names.len] at h1; unfold Hid; omega
  clear h h' hb0 hW0 hn hok
  go_enter Tryz.func87, Tryz.ntmps87
  go_wp2_with fail
  rw [← HW0.out]
  refine (flagsOf_any na sn nc x.names sa sc x.sets wa wn wc wd L W0 HR.out.names HR.out.sets HW.out HA.out HN12.out HLs.out HL.out).mono ?_
  rintro e w5 ⟨b2, o2, c, rfl, hf, hc, hb5⟩
  have HC : Hid (∀ q, q < L → w5.cell? ⟨b2, o2 + q, none⟩ = some (.bool (flagO x.names x.sets wd q))) := hc
  have HB5 : Hid (Below w.heap.size w w5) := HB0.out.trans (hb5.mono HB0.out.size)
  clear hc hb5
  go_wp2_with fail
  go_ret
  exact ⟨b2, o2, c, rfl, ⟨hf.1, hf.2.imp id (fun h => Nat.le_trans HB0.out.size h)⟩, HC.out, HB5.out⟩
end

section
open Go.RowKit Go.Deep
set_option linter.unusedVariables false

def partF (f : Nat → Bool) (k i : Nat) : Value := .bool (if i < k then f i else false)

theorem rowF_step {w : World} {g n : Nat} {f : Nat → Bool} {k : Nat} (h : w.rowIs g 4 n (partF f k)) : (w.setCell ⟨g, k, none⟩ (.bool (f k))).rowIs g 4 n (partF f (k + 1)) := by
  refine (h.set k _).congr fun i _ => ?_
  unfold partF
  by_cases e : i = k
  · subst e; simp
  · rw [if_neg e]
    congr 1
    by_cases h1 : i < k
    · rw [if_pos h1, if_pos (by omega)]
    · rw [if_neg h1, if_neg (by omega)]

/-- Flags in memory. -/
def FlS (w : World) (b o : Nat) (L : Nat) (f : Nat → Bool) : Prop := b < w.heap.size ∧ ∀ q, q < L → w.cell? ⟨b, o + q, none⟩ = some (.bool (f q))
theorem FlS.below {w w' : World} {b o L : Nat} {f : Nat → Bool} (h : FlS w b o L f) (hb : Below w.heap.size w w') : FlS w' b o L f :=
  ⟨Nat.lt_of_lt_of_le h.1 hb.size, fun q hq => (hb.cell (p := ⟨b, o + q, none⟩) h.1).trans (h.2 q hq)⟩

set_option maxRecDepth 100000 in
set_option maxHeartbeats 4000000 in
/-- For whatever function that answers at every element. -/
theorem each_any (F : Nat) (cp : Array Value) (f : Nat → Bool) (L : Nat) {ia : Option Addr} {im ic : Nat} {ta : Option Addr} {tn tc : Nat} (w : World) (hL : L ≤ 128)
    (hen : ∀ (args : Array Value) (V : World), (callFunc F args).run Tryz.prog V = .ok (.enter F args) V)
    (hg : ∀ (e : Nat) (V : World), e < L → Below w.heap.size w V → Calls Tryz.prog F (#[.int .i64 e] ++ cp) V fun r w' => r = .returned (.bool (f e)) ∧ Below V.heap.size V w') :
    Calls Tryz.prog 92 #[.agg #[.int .i64 L, .slice ia im ic, .slice ta tn tc], .func (.func F) #[] cp] w fun r w' => ∃ g, r = .returned (.slice (some ⟨g, 0, none⟩) L L) ∧ w.heap.size ≤ g ∧ FlS w' g 0 L f ∧ Below w.heap.size w w' := by
  have HG : Hid (∀ (e : Nat) (V : World), e < L → Below w.heap.size w V → Calls Tryz.prog F (#[.int .i64 e] ++ cp) V fun r w' => r = .returned (.bool (f e)) ∧ Below V.heap.size V w') := hg
  obtain ⟨W0, hW0⟩ : ∃ W0, W0 = w.alloc (.cells #[.int .i64 L, .slice ia im ic, .slice ta tn tc] 72) := ⟨_, rfl⟩
  have HW0 : Hid (W0 = w.alloc (.cells #[.int .i64 L, .slice ia im ic, .slice ta tn tc] 72)) := hW0
  have hs0 : w.heap.size < W0.heap.size := by rw [hW0]; simp
  have hb0 : Below w.heap.size w W0 := by rw [hW0]; exact (Below.refl _ _).alloc (Nat.le_refl _) _
  have z0 : W0.cell? ⟨w.heap.size, 0, none⟩ = some (.int .i64 L) := by rw [hW0]; simp
  have HB1 : Hid (Below w.heap.size w (W0.alloc (.cells (madeCells #[.bool false] L) 4))) := hb0.alloc (by omega) _
  have HR1 : Hid ((W0.alloc (.cells (madeCells #[.bool false] L) 4)).rowIs W0.heap.size 4 L (partF f 0)) := (World.rowIs_made W0 (.bool false) L 4).congr (fun i _ => by simp [partF])
  have hmk := run_make_row' (P := Tryz.prog) 63 4 (.bool false) 1 Tryz.underlying63 Tryz.info4w rfl .i64 .i64 L (by omega) (by omega) W0
  clear hg hb0 hW0
  go_enter Tryz.func92, Tryz.ntmps92
  go_upto_region 1 with fail
  rw [← HW0.out]
  go_wp2_with fail
  clear hmk z0
  go_loopw [12] (fun i wr => ∃ k : Nat, k ≤ L ∧ i = .int .i64 k ∧ wr.rowIs W0.heap.size 4 L (partF f k) ∧ Below w.heap.size w wr) (fun i _ => L - (intOf i).toNat)
  case atStart => exact ⟨0, Nat.zero_le _, rfl, HR1.out, HB1.out⟩
  case round =>
    obtain ⟨k, hk, rfl, hrow, hbel⟩ := hrel
    have HRow : Hid (wr.rowIs W0.heap.size 4 L (partF f k)) := hrow
    have HBe : Hid (Below w.heap.size w wr) := hbel
    have hszr := hbel.size
    have hgl := hrow.lt
    clear hrow hbel
    by_cases hlt : k < L
    · have hki : (k : Int) < (L : Int) := by omega
      go_wp2_with fail
      refine (HG.out k wr hlt HBe.out).mono ?_
      rintro r w5 ⟨rfl, hb5⟩
      have hrow5 : w5.rowIs W0.heap.size 4 L (partF f k) := HRow.out.of_block (hb5.block _ hgl)
      have hfz := hrow5.frozen k
      obtain ⟨fk, hfk⟩ : ∃ fk, fk = f k := ⟨_, rfl⟩
      have hold : w5.cell? ⟨W0.heap.size, k, none⟩ = some (.bool false) := by have := hrow5.cell hlt; simpa [partF] using this
      have HR : Hid ((w5.setCell ⟨W0.heap.size, k, none⟩ (.bool fk)).rowIs W0.heap.size 4 L (partF f (k + 1))) := by unfold Hid; rw [hfk]; exact rowF_step hrow5
      have HB5 : Hid (Below w.heap.size w w5) := HBe.out.trans (hb5.mono hszr)
      have HB : Hid (Below w.heap.size w (w5.setCell ⟨W0.heap.size, k, none⟩ (.bool fk))) := HB5.out.setCell (by show w.heap.size ≤ W0.heap.size; omega) _
      rw [← hfk]
      clear hrow5 hb5 hfk
      go_wp2_with fail
      go_roundw
      case rel => exact ⟨k + 1, by omega, by go_num, HR.out, HB.out⟩
      case measure => simp [intOf]; omega
    · have HF : Hid (FlS wr W0.heap.size 0 L f) := by
        refine ⟨hgl, fun q hq => ?_⟩
        rw [Nat.zero_add, HRow.out.cell hq]
        simp [partF, show q < k by omega]
      go_wp2_with fail
      go_ret
      exact ⟨_, rfl, Nat.le_of_lt hs0, HF.out, HBe.out⟩

set_option maxRecDepth 100000 in
set_option maxHeartbeats 4000000 in
theorem meets_any {L : Nat} (hL : L ≤ 16384) {ab ao ac bb bo bc : Nat} {fa fb : Nat → Bool} {w : World} (ha : FlS w ab ao L fa) (hb : FlS w bb bo L fb) (hac : L ≤ ac ∧ ac ≤ 9223372036854775807) (hbc : L ≤ bc ∧ bc ≤ 9223372036854775807) :
    Calls Tryz.prog 99 #[.slice (some ⟨ab, ao, none⟩) L ac, .slice (some ⟨bb, bo, none⟩) L bc] w fun r w' => r = .returned (.bool ((List.range L).any (fun y => fa y && fb y))) ∧ w' = w := by
  have HA : Hid (FlS w ab ao L fa) := ha
  have HB : Hid (FlS w bb bo L fb) := hb
  clear ha hb
  go_enter Tryz.func99, Tryz.ntmps99
  go_wp2_with fail
  go_loopw [8] (fun i wr => ∃ k : Nat, k ≤ L ∧ i = .int .i64 k ∧ (∀ j, j < k → (fa j && fb j) = false) ∧ wr = w) (fun i _ => L - (intOf i).toNat)
  case atStart => exact ⟨0, Nat.zero_le _, rfl, fun j hj => by omega, rfl⟩
  case round =>
    obtain ⟨k, hk, rfl, hall, rfl⟩ := hrel
    have HAll : Hid (∀ j, j < k → (fa j && fb j) = false) := hall
    clear hall
    by_cases hlt : k < L
    · have hki : (k : Int) < (L : Int) := by omega
      obtain ⟨x0, hx0⟩ : ∃ b, b = fa k := ⟨_, rfl⟩
      obtain ⟨y0, hy0⟩ : ∃ b, b = fb k := ⟨_, rfl⟩
      have HX : Hid (x0 = fa k) := hx0
      have HY : Hid (y0 = fb k) := hy0
      have c0 := HA.out.2 k hlt
      have c1 := HB.out.2 k hlt
      rw [← hx0] at c0
      rw [← hy0] at c1
      have HNext : Hid ((fa k && fb k) = false → ∀ j, j < k + 1 → (fa j && fb j) = false) := fun hb j hj => by
        by_cases e' : j = k
        · subst e'; exact hb
        · exact HAll.out j (by omega)
      clear hx0 hy0
      cases x0
      · cases y0
        · have HN : Hid (∀ j, j < k + 1 → (fa j && fb j) = false) := HNext.out (by rw [← HX.out, ← HY.out]; rfl)
          go_wp2_with fail
          go_roundw
          case rel => exact ⟨k + 1, by omega, by go_num, HN.out, by first | rfl | trivial⟩
          case measure => simp [intOf]; omega
        · have HN : Hid (∀ j, j < k + 1 → (fa j && fb j) = false) := HNext.out (by rw [← HX.out, ← HY.out]; rfl)
          go_wp2_with fail
          go_roundw
          case rel => exact ⟨k + 1, by omega, by go_num, HN.out, by first | rfl | trivial⟩
          case measure => simp [intOf]; omega
      · cases y0
        · have HN : Hid (∀ j, j < k + 1 → (fa j && fb j) = false) := HNext.out (by rw [← HX.out, ← HY.out]; rfl)
          go_wp2_with fail
          go_roundw
          case rel => exact ⟨k + 1, by omega, by go_num, HN.out, by first | rfl | trivial⟩
          case measure => simp [intOf]; omega
        · have HN : Hid (((List.range L).any (fun y => fa y && fb y)) = true) := by
            unfold Hid
            rw [List.any_eq_true]
            refine ⟨k, List.mem_range.2 hlt, ?_⟩
            rw [← HX.out, ← HY.out]
            decide
          go_wp2_with fail
          go_ret
          exact ⟨rb HN.out.symm, rfl⟩
    · have HN : Hid (((List.range L).any (fun y => fa y && fb y)) = false) := by
        unfold Hid
        rw [List.any_eq_false]
        intro j hj
        have := HAll.out j (by have := List.mem_range.1 hj; omega)
        revert this
        cases fa j <;> cases fb j <;> decide
      go_wp2_with fail
      go_ret
      exact ⟨rb HN.out.symm, rfl⟩

set_option maxRecDepth 100000 in
set_option maxHeartbeats 4000000 in
theorem within_any {L : Nat} (hL : L ≤ 16384) {ab ao ac bb bo bc : Nat} {fa fb : Nat → Bool} {w : World} (ha : FlS w ab ao L fa) (hb : FlS w bb bo L fb) (hac : L ≤ ac ∧ ac ≤ 9223372036854775807) (hbc : L ≤ bc ∧ bc ≤ 9223372036854775807) :
    Calls Tryz.prog 102 #[.slice (some ⟨ab, ao, none⟩) L ac, .slice (some ⟨bb, bo, none⟩) L bc] w fun r w' => r = .returned (.bool ((List.range L).all (fun y => !(fa y) || fb y))) ∧ w' = w := by
  have HA : Hid (FlS w ab ao L fa) := ha
  have HB : Hid (FlS w bb bo L fb) := hb
  clear ha hb
  go_enter Tryz.func102, Tryz.ntmps102
  go_wp2_with fail
  go_loopw [8] (fun i wr => ∃ k : Nat, k ≤ L ∧ i = .int .i64 k ∧ (∀ j, j < k → (fa j && !(fb j)) = false) ∧ wr = w) (fun i _ => L - (intOf i).toNat)
  case atStart => exact ⟨0, Nat.zero_le _, rfl, fun j hj => by omega, rfl⟩
  case round =>
    obtain ⟨k, hk, rfl, hall, rfl⟩ := hrel
    have HAll : Hid (∀ j, j < k → (fa j && !(fb j)) = false) := hall
    clear hall
    by_cases hlt : k < L
    · have hki : (k : Int) < (L : Int) := by omega
      obtain ⟨x0, hx0⟩ : ∃ b, b = fa k := ⟨_, rfl⟩
      obtain ⟨y0, hy0⟩ : ∃ b, b = fb k := ⟨_, rfl⟩
      have HX : Hid (x0 = fa k) := hx0
      have HY : Hid (y0 = fb k) := hy0
      have c0 := HA.out.2 k hlt
      have c1 := HB.out.2 k hlt
      rw [← hx0] at c0
      rw [← hy0] at c1
      have HNext : Hid ((fa k && !(fb k)) = false → ∀ j, j < k + 1 → (fa j && !(fb j)) = false) := fun hb j hj => by
        by_cases e' : j = k
        · subst e'; exact hb
        · exact HAll.out j (by omega)
      clear hx0 hy0
      cases x0
      · cases y0
        · have HN : Hid (∀ j, j < k + 1 → (fa j && !(fb j)) = false) := HNext.out (by rw [← HX.out, ← HY.out]; rfl)
          go_wp2_with fail
          go_roundw
          case rel => exact ⟨k + 1, by omega, by go_num, HN.out, by first | rfl | trivial⟩
          case measure => simp [intOf]; omega
        · have HN : Hid (∀ j, j < k + 1 → (fa j && !(fb j)) = false) := HNext.out (by rw [← HX.out, ← HY.out]; rfl)
          go_wp2_with fail
          go_roundw
          case rel => exact ⟨k + 1, by omega, by go_num, HN.out, by first | rfl | trivial⟩
          case measure => simp [intOf]; omega
      · cases y0
        · have HN : Hid (((List.range L).all (fun y => !(fa y) || fb y)) = false) := by
            unfold Hid
            rw [List.all_eq_false]
            refine ⟨k, List.mem_range.2 hlt, ?_⟩
            rw [← HX.out, ← HY.out]
            decide
          go_wp2_with fail
          go_ret
          exact ⟨rb HN.out.symm, rfl⟩
        · have HN : Hid (∀ j, j < k + 1 → (fa j && !(fb j)) = false) := HNext.out (by rw [← HX.out, ← HY.out]; rfl)
          go_wp2_with fail
          go_roundw
          case rel => exact ⟨k + 1, by omega, by go_num, HN.out, by first | rfl | trivial⟩
          case measure => simp [intOf]; omega
    · have HN : Hid (((List.range L).all (fun y => !(fa y) || fb y)) = true) := by
        unfold Hid
        rw [List.all_eq_true]
        intro j hj
        have := HAll.out j (by have := List.mem_range.1 hj; omega)
        revert this
        cases fa j <;> cases fb j <;> decide
      go_wp2_with fail
      go_ret
      exact ⟨rb HN.out.symm, rfl⟩
end

section
open Go.RowKit

theorem toksFrom_bound (zs : List Int) : ∀ (f i : Nat) (acc : List Tok), i ≤ zs.length → acc.length ≤ i → (∀ t ∈ acc, t.text.length ≤ zs.length) → (toksFrom zs f i acc).1.length ≤ zs.length ∧ ∀ t ∈ (toksFrom zs f i acc).1, t.text.length ≤ zs.length
  | 0, i, acc, hi, hl, ht => ⟨by simp only [toksFrom]; omega, ht⟩
  | f + 1, i, acc, hi, hl, ht => by
    by_cases h : i < zs.length
    · cases hb : blankB (zs.getD i 0)
      · by_cases hk : kindOf (piece zs i) = 0
        · rw [toksFrom_bad zs f i acc h hb hk]; exact ⟨by simp, fun t h => by simp at h⟩
        · rw [toksFrom_tok zs f i acc h hb hk]
          refine toksFrom_bound zs f _ _ (pend_le zs i h) (by have := pend_gt zs i; simp; omega) ?_
          intro t h'
          rcases List.mem_append.1 h' with h' | h'
          · exact ht t h'
          · simp at h'; subst h'
            simp only [tokAt]
            split
            · rw [piece_length zs i h]; have := pend_le zs i h; omega
            · simp
      · rw [toksFrom_blank zs f i acc h hb]; exact toksFrom_bound zs f _ _ (by omega) (by omega) ht
    · rw [toksFrom_stop zs _ i acc (by omega)]; exact ⟨by show acc.length ≤ _; omega, ht⟩

theorem toks_bound (zs : List Int) : (toks zs).1.length ≤ 1500 ∧ ∀ i, ((toks zs).1.getD i Tok.zero).text.length ≤ 1500 := by
  have key : (toks zs).1.length ≤ 1500 ∧ ∀ t ∈ (toks zs).1, t.text.length ≤ 1500 := by
    unfold toks
    split
    · exact ⟨by simp, fun t h => by simp at h⟩
    · have := toksFrom_bound zs (zs.length + 1) 0 [] (by omega) (by simp) (fun t h => by simp at h)
      exact ⟨by omega, fun t h => by have := this.2 t h; omega⟩
  refine ⟨key.1, fun i => ?_⟩
  by_cases hi : i < (toks zs).1.length
  · have := key.2 ((toks zs).1[i]) (List.getElem_mem hi)
    simpa [List.getD, hi] using this
  · simp only [List.getD]
    rw [List.getElem?_eq_none (by omega)]
    simp [Tok.zero]

theorem implTok_at (b off n cap : Nat) (zs : List Int) (ts : List Tok) (p : Int) (ht : toks zs = (ts, p)) (w : World) (h : Rd 0 w.heap.size w (some ⟨b, off, none⟩) n cap zs) (hb : b < w.heap.size) :
    Calls Tryz.prog 137 #[.slice (some ⟨b, off, none⟩) n cap] w fun e w' => ∃ a' cap' gs, e = .returned (.tuple #[.slice a' ts.length cap', .int .i64 p]) ∧ OwnT w.heap.size w' (.slice a' ts.length cap') ts gs ∧ RdT w.heap.size w'.heap.size w' a' ts.length cap' ts ∧ Below w.heap.size w w' := by
  have key : Calls Tryz.prog 137 #[.slice (some ⟨b, off, none⟩) n cap] w fun e w' => ∃ v gs, e = .returned (.tuple #[v, .int .i64 (toks zs).2]) ∧ OwnT w.heap.size w' v (toks zs).1 gs ∧ Below w.heap.size w w' := by
    by_cases hbig : 1500 < n
    · exact implTokens_big _ n cap zs w h hbig
    · exact implTokens_small b off n cap zs w h hb (by omega)
  refine key.mono fun e w' ⟨v, gs, he, hO, hb⟩ => ?_
  rw [ht] at he hO
  obtain ⟨a', cap', rfl, hr⟩ := hO.rd
  exact ⟨a', cap', gs, he, hO, hr, hb⟩

theorem HeadT.same {w w' : World} {b off n lo hi : Nat} {tx : Nat → Nat × Nat × Nat} (h : HeadT w b off tx n) (hs : Same lo hi w w') (h1 : n = 0 ∨ lo ≤ b) (h2 : n = 0 ∨ b < hi) : HeadT w' b off tx n := by
  intro i hi'
  obtain ⟨ta, tc, hc, r⟩ := h i hi'
  exact ⟨ta, tc, (hs.cell (p := ⟨b, _, none⟩) (by show lo ≤ b; omega) (by show b < hi; omega)).trans hc, r⟩
end

end Go.Proofs.YtnmljalcndfjmaaGreat
