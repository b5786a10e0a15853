/- Several texts in one: WdImpl3, WdFind0, WdRel0, WdSearch0. -/
import Derived.Test.YtnmljalcndfjmaaWdSpec
import Derived.Deep.RegionWith
import Derived.Test.YtnmljalcndfjmaaNG12
import Derived.Test.YtnmljalcndfjmaaNG3
namespace Go.Proofs.Ytnmljalcndfjmaa

section
open Go.RowKit

def hasB (nx z : Int) : Bool := decide (0 ≤ z ∧ z < nx)

set_option maxRecDepth 100000 in
set_option maxHeartbeats 2000000 in
theorem has_any {ia : Option Addr} {im ic : Nat} {ta : Option Addr} {tn tc : Nat} (nx z : Int) (w : World) :
    Calls Try.prog 23 #[.agg #[.int .i64 nx, .slice ia im ic, .slice ta tn tc], .int .i64 z] w fun e w' => e = .returned (.bool (hasB nx z)) ∧ Below w.heap.size w w' := by
  have HB0 : Hid (Below w.heap.size w (w.alloc (.cells #[.int .i64 nx, .slice ia im ic, .slice ta tn tc] 45))) := (Below.refl _ _).alloc (Nat.le_refl _) _
  have HD : Hid (hasB nx z = decide (0 ≤ z ∧ z < nx)) := rfl
  by_cases h0 : 0 ≤ z
  · have hd0 : decide (0 ≤ z) = true := decide_eq_true h0
    by_cases h1 : z < nx
    · have hd1 : decide (z < nx) = true := decide_eq_true h1
      have HG : Hid (hasB nx z = true) := by rw [Hid, HD.out]; exact decide_eq_true ⟨h0, h1⟩
      go_enter Try.func23, Try.ntmps23
      go_wp2_with fail
      go_ret
      exact ⟨rb HG.out.symm, HB0.out⟩
    · have hd1 : decide (z < nx) = false := decide_eq_false h1
      have HG : Hid (hasB nx z = false) := by rw [Hid, HD.out]; exact decide_eq_false (fun h => h1 h.2)
      go_enter Try.func23, Try.ntmps23
      go_wp2_with fail
      go_ret
      exact ⟨rb HG.out.symm, HB0.out⟩
  · have hd0 : decide (0 ≤ z) = false := decide_eq_false h0
    have HG : Hid (hasB nx z = false) := by rw [Hid, HD.out]; exact decide_eq_false (fun h => h0 h.1)
    go_enter Try.func23, Try.ntmps23
    go_wp2_with fail
    go_ret
    exact ⟨rb HG.out.symm, HB0.out⟩

set_option maxRecDepth 100000 in
set_option maxHeartbeats 4000000 in
theorem peopleOf_any {na : Option Addr} {nn nc : Nat} {sa : Option Addr} {sn sc : Nat} {ra : Option Addr} {rn rc : Nat} {la : Option Addr} {ln lc : Nat} {ia : Option Addr} {im ic : Nat} {ta : Option Addr} {tn tc : Nat} {nx : Int} (w : World) :
    Calls Try.prog 31 #[.agg #[.int .i64 nx, .slice na nn nc, .slice sa sn sc, .slice ra rn rc, .slice la ln lc, .slice ia im ic, .slice ta tn tc]] w fun e w' => e = .returned (.agg #[.int .i64 nx, .slice ia im ic, .slice ta tn tc]) ∧ Below w.heap.size w w' := by
  obtain ⟨W0, hW0⟩ : ∃ W0, W0 = w.alloc (.cells #[.int .i64 nx, .slice na nn nc, .slice sa sn sc, .slice ra rn rc, .slice la ln lc, .slice ia im ic, .slice ta tn tc] 27) := ⟨_, rfl⟩
  have HW0 : Hid (W0 = w.alloc (.cells #[.int .i64 nx, .slice na nn nc, .slice sa sn sc, .slice ra rn rc, .slice la ln lc, .slice ia im ic, .slice ta tn tc] 27)) := hW0
  have hb0 : Below w.heap.size w W0 := by rw [hW0]; exact (Below.refl _ _).alloc (Nat.le_refl _) _
  have HB0 : Hid (Below w.heap.size w W0) := hb0
  have hs : W0.heap.size = w.heap.size + 1 := by rw [hW0]; simp
  have hbx : BoxW 27 W0 w.heap.size nx (.slice na nn nc) (.slice sa sn sc) (.slice ra rn rc) (.slice la ln lc) (.slice ia im ic) (.slice ta tn tc) := by rw [hW0]; exact BoxW.new _ w _ _ _ _ _ _ _
  obtain ⟨z0, z1, z2, z3, z4, z5, z6⟩ := hbx.cells
  clear hb0 hW0 hbx
  go_enter Try.func31, Try.ntmps31
  go_wp2_with fail
  refine bodyPost_ret (v := .agg #[.int .i64 nx, .slice ia im ic, .slice ta tn tc]) (by simp [results, Try.results31, go_sem]) rfl ⟨rfl, ?_⟩
  exact ((Below.refl _ _).alloc (Nat.le_refl _) _).alloc (by simp) _

set_option maxRecDepth 100000 in
set_option maxHeartbeats 4000000 in
theorem notHas_any {na : Option Addr} {nn nc : Nat} {sa : Option Addr} {sn sc : Nat} {ra : Option Addr} {rn rc : Nat} {la : Option Addr} {ln lc : Nat} {ia : Option Addr} {im ic : Nat} {ta : Option Addr} {tn tc : Nat} {nx z : Int} {pb : Nat} (w : World) (hbx : BoxW 27 w pb nx (.slice na nn nc) (.slice sa sn sc) (.slice ra rn rc) (.slice la ln lc) (.slice ia im ic) (.slice ta tn tc)) :
    Calls Try.prog 55 #[.int .i64 z, .pointer (some ⟨pb, 0, none⟩)] w fun e w' => e = .returned (.bool (!(hasB nx z))) ∧ Below w.heap.size w w' := by
  obtain ⟨z0, z1, z2, z3, z4, z5, z6⟩ := hbx.cells
  clear hbx
  go_enter Try.func55, Try.ntmps55
  go_wp2_with fail
  refine (peopleOf_any w).mono ?_
  rintro e w1 ⟨rfl, hb1⟩
  have HB1 : Hid (Below w.heap.size w w1) := hb1
  clear hb1 z0 z1 z2 z3 z4 z5 z6
  go_wp2_with fail
  refine (has_any nx z w1).mono ?_
  rintro e w2 ⟨rfl, hb2⟩
  have HB2 : Hid (Below w.heap.size w w2) := HB1.out.trans (hb2.mono HB1.out.size)
  clear hb2
  go_wp2_with fail
  go_ret
  exact ⟨rb rfl, HB2.out⟩

set_option maxRecDepth 100000 in
set_option maxHeartbeats 8000000 in
theorem indexAt_any {na : Option Addr} {nn nc : Nat} {sa : Option Addr} {sn sc : Nat} {ra : Option Addr} {rn rc : Nat} {la : Option Addr} {ln lc : Nat} {ia : Option Addr} {im ic : Nat} {ta : Option Addr} {tn tc : Nat} {nx : Int} {pb : Nat} (a : Option Addr) (n cap : Nat) (xs : List Int) (w : World) {lo hi : Nat} (h : RI lo hi w a n cap xs) (hhi : hi ≤ w.heap.size) (hbx : BoxW 27 w pb nx (.slice na nn nc) (.slice sa sn sc) (.slice ra rn rc) (.slice la ln lc) (.slice ia im ic) (.slice ta tn tc)) :
    Calls Try.prog 73 #[.slice a n cap, .func (.func 55) #[] #[.pointer (some ⟨pb, 0, none⟩)]] w fun e w' => ∃ i : Int, e = .returned (.int .i64 i) ∧ decide (0 ≤ i) = !(atB xs nx) ∧ Below w.heap.size w w' := by
  have HR : Hid (RI lo hi w a n cap xs) := h
  have HL : Hid (xs.length = n) := h.len
  have HP : Hid (BoxW 27 w pb nx (.slice na nn nc) (.slice sa sn sc) (.slice ra rn rc) (.slice la ln lc) (.slice ia im ic) (.slice ta tn tc)) := hbx
  have hpl : pb < w.heap.size := hbx.lt
  have hf := h.fits
  clear h hbx
  go_enter Try.func73, Try.ntmps73
  go_upto_region 2 with fail
  go_loopw [8] (fun i wr => ∃ k : Nat, k ≤ n ∧ i = .int .i64 k ∧ (List.range k).all (fun i => hasB nx (xs.getD i 0)) = true ∧ Below w.heap.size w wr) (fun i _ => n - (intOf i).toNat)
  case atStart => exact ⟨0, Nat.zero_le _, rfl, by simp, Below.refl _ _⟩
  case round =>
    obtain ⟨k, hk, rfl, hall, hbel⟩ := hrel
    have HAll : Hid ((List.range k).all (fun i => hasB nx (xs.getD i 0)) = true) := hall
    have HBe : Hid (Below w.heap.size w wr) := hbel
    have HPr : Hid (BoxW 27 wr pb nx (.slice na nn nc) (.slice sa sn sc) (.slice ra rn rc) (.slice la ln lc) (.slice ia im ic) (.slice ta tn tc)) := HP.out.below hbel hpl
    have hszr := hbel.size
    clear hall
    by_cases hlt : k < n
    · rcases (HR.out.below hbel hhi).cells with hz | ⟨b, off, e1, _, _, hc⟩
      · omega
      · subst e1
        obtain ⟨v, c0, rfl⟩ := hc k hlt
        obtain ⟨z, hz⟩ : ∃ z, z = xs.getD k 0 := ⟨_, rfl⟩
        rw [← hz] at c0
        have HZz : Hid (z = xs.getD k 0) := hz
        have hki : (k : Int) < (n : Int) := by omega
        clear hc hz hbel
        go_wp2_with fail
        refine (notHas_any wr HPr.out).mono ?_
        rintro e w5 ⟨rfl, hb5⟩
        have HB5 : Hid (Below w.heap.size w w5) := HBe.out.trans (hb5.mono hszr)
        clear hb5
        cases hq : hasB nx z
        · have HE : Hid (atB xs nx = false) := range_all_false (by rw [HL.out]; exact hlt) (by rw [← HZz.out]; exact hq)
          clear hq
          go_wp2_with fail
          go_ret
          exact ⟨k, rfl, by rw [HE.out]; simp, HB5.out⟩
        · have HS : Hid ((List.range (k + 1)).all (fun i => hasB nx (xs.getD i 0)) = true) := by unfold Hid; rw [range_all_succ, HAll.out, ← HZz.out, hq]; rfl
          clear hq
          go_wp2_with fail
          go_roundw
          case rel => exact ⟨k + 1, by omega, by go_num, HS.out, HB5.out⟩
          case measure => simp [intOf]; omega
    · have HF : Hid (atB xs nx = true) := by rw [Hid, atB, HL.out, show n = k by omega]; exact HAll.out
      have hge : decide ((k : Int) < (n : Int)) = false := by simp; omega
      clear hbel
      go_wp2_with fail
      go_ret
      exact ⟨-1, rfl, by rw [HF.out]; simp, HBe.out⟩

set_option maxRecDepth 100000 in
theorem hasAt_any {na : Option Addr} {nn nc : Nat} {sa : Option Addr} {sn sc : Nat} {ra : Option Addr} {rn rc : Nat} {la : Option Addr} {ln lc : Nat} {ia : Option Addr} {im ic : Nat} {ta : Option Addr} {tn tc : Nat} {nx : Int} {pb : Nat} (a : Option Addr) (n cap : Nat) (xs : List Int) (w : World) {lo hi : Nat} (h : RI lo hi w a n cap xs) (hhi : hi ≤ w.heap.size) (hbx : BoxW 27 w pb nx (.slice na nn nc) (.slice sa sn sc) (.slice ra rn rc) (.slice la ln lc) (.slice ia im ic) (.slice ta tn tc)) :
    Calls Try.prog 54 #[.slice a n cap, .func (.func 55) #[] #[.pointer (some ⟨pb, 0, none⟩)]] w fun e w' => e = .returned (.bool (!(atB xs nx))) ∧ Below w.heap.size w w' := by
  have HR : Hid (RI lo hi w a n cap xs) := h
  have HP : Hid (BoxW 27 w pb nx (.slice na nn nc) (.slice sa sn sc) (.slice ra rn rc) (.slice la ln lc) (.slice ia im ic) (.slice ta tn tc)) := hbx
  clear h hbx
  go_enter Try.func54, Try.ntmps54
  go_wp2_with fail
  refine (indexAt_any a n cap xs w HR.out hhi HP.out).mono ?_
  rintro e w5 ⟨i, rfl, hi5, hb5⟩
  have HB5 : Hid (Below w.heap.size w w5) := hb5
  have HI : Hid (decide (0 ≤ i) = !(atB xs nx)) := hi5
  clear hi5 hb5
  by_cases hi0 : 0 ≤ i
  · go_wp2_with fail
    go_ret
    exact ⟨rb (by rw [← HI.out]; simp [hi0]), HB5.out⟩
  · go_wp2_with fail
    go_ret
    exact ⟨rb (by rw [← HI.out]), HB5.out⟩
end

section
open Go.RowKit

def keyL (zs : List Int) : List UInt8 := (strOfNums zs).toList
def hit (l : List (List Int)) (wd : List Int) (i : Nat) : Bool := keyL (l.getD i []) == keyL wd
def idxO (l : List (List Int)) (wd : List Int) : Option Nat := (List.range l.length).find? (hit l wd)
def flagO (l : List (List Int)) (s : List (List Bool)) (wd : List Int) (q : Nat) : Bool := match idxO l wd with | some i => (s.getD i []).getD q false | none => false
def inSetB (x : WD) (wd : List Int) (z : Int) : Bool := worldB x && (hasB x.n z && flagO x.names x.sets wd z.toNat)

theorem idx_some {l : List (List Int)} {wd : List Int} {i : Nat} (hi : i < l.length) (he : hit l wd i = true) (hm : ∀ j, j < i → hit l wd j = false) : idxO l wd = some i := by
  unfold idxO
  rw [List.find?_range_eq_some]
  exact ⟨he, by simpa using hi, fun j hj => by simp [hm j hj]⟩

theorem idx_none {l : List (List Int)} {wd : List Int} (h : ∀ i, i < l.length → hit l wd i = false) : idxO l wd = none := by
  unfold idxO
  rw [List.find?_range_eq_none]
  exact fun i hi => by simp [h i hi]

theorem idx_of {l : List (List Int)} {wd : List Int} {i : Nat} (h : idxO l wd = some i) : i < l.length := by
  unfold idxO at h
  rw [List.find?_range_eq_some] at h
  simpa using h.2.1

theorem flags_long {s : List (List Bool)} {m : Int} (h : flagsB s m = true) {i : Nat} (hi : i < s.length) : ((s.getD i []).length : Int) = m := by
  unfold flagsB at h
  rw [List.all_eq_true] at h
  simpa using h i (by simpa using hi)
end

section
open Go.RowKit

def relO (x : WD) (wd : List Int) (p q L : Nat) : Bool := flagO x.roles x.rels wd (p * L + q)
def inRelB (x : WD) (wd : List Int) (y z : Int) : Bool := worldB x && (hasB x.n y && (hasB x.n z && relO x wd y.toNat z.toNat x.n.toNat))

theorem cell_lt {p q L : Nat} (hp : p < L) (hq : q < L) : p * L + q < L * L := by
  have h1 : (p + 1) * L ≤ L * L := Nat.mul_le_mul_right L hp
  have h2 : (p + 1) * L = p * L + L := by rw [Nat.add_mul, Nat.one_mul]
  omega
end

section
open Go.RowKit

theorem less_trans : ∀ a b c : List UInt8, Op.bytesLess a b = true → Op.bytesLess b c = true → Op.bytesLess a c = true
  | _, _, [], _, h => by simp [Op.bytesLess] at h
  | [], _, c :: cs, _, _ => by simp [Op.bytesLess]
  | a :: xs, [], _ :: _, h, _ => by simp [Op.bytesLess] at h
  | a :: xs, b :: bs, c :: cs, h1, h2 => by
    have ih := less_trans xs bs cs
    simp only [Op.bytesLess, Bool.or_eq_true, decide_eq_true_eq, Bool.and_eq_true, beq_iff_eq] at h1 h2 ⊢
    rcases h1 with h1 | ⟨rfl, h1⟩
    · rcases h2 with h2 | ⟨rfl, h2⟩
      · exact .inl (UInt8.lt_trans h1 h2)
      · exact .inl h1
    · rcases h2 with h2 | ⟨rfl, h2⟩
      · exact .inl h2
      · exact .inr ⟨rfl, ih h1 h2⟩

def Asc (l : List (List Int)) : Prop := ∀ j i, i < j → j < l.length → ltB (l.getD i []) (l.getD j []) = true

theorem asc_of {up : Bool} {l : List (List Int)} (h : namesB up l = true) : Asc l := by
  unfold namesB at h
  rw [List.all_eq_true] at h
  have hs : ∀ j, j + 1 < l.length → ltB (l.getD j []) (l.getD (j + 1) []) = true := fun j hj => by
    have := h (j + 1) (by simpa using hj)
    simp [nameAt] at this
    simpa using this.2
  intro j
  induction j with
  | zero => intro i hi; omega
  | succ j ih =>
    intro i hi hj
    by_cases e : i = j
    · subst e; exact hs i hj
    · exact less_trans _ _ _ (ih i (by omega) (by omega)) (hs j hj)

theorem hit_not {l : List (List Int)} {wd : List Int} {i : Nat} (h : ltB (l.getD i []) wd = true) : hit l wd i = false := by
  unfold hit keyL
  cases e : ((strOfNums (l.getD i [])).toList == (strOfNums wd).toList)
  · rfl
  · have e2 : (strOfNums (l.getD i [])).toList = (strOfNums wd).toList := by simpa using e
    unfold ltB at h
    rw [e2, less_self] at h
    exact absurd h (by simp)

theorem cmp_zero (xs ys : List Int) : decide (cmpZ xs ys = 0) = ((strOfNums xs).toList == (strOfNums ys).toList) := by
  unfold cmpZ
  rw [← less_cmp]
  cases h : ((strOfNums xs).toList == (strOfNums ys).toList)
  · cases h1 : Op.bytesLess (strOfNums xs).toList (strOfNums ys).toList
    · have := less_tri _ _ h1 h
      simp [this]
    · simp
  · have e2 : (strOfNums xs).toList = (strOfNums ys).toList := by simpa using h
    rw [e2, less_self]
    simp

theorem search_end {l : List (List Int)} {wd : List Int} {p : Nat} (ha : Asc l) (h1 : ∀ t, t < p → ltB (l.getD t []) wd = true) (h2 : ∀ t, p ≤ t → t < l.length → ltB (l.getD t []) wd = false) (h3 : p < l.length → hit l wd p = false) : idxO l wd = none := by
  refine idx_none fun i hi => ?_
  by_cases hp : i < p
  · exact hit_not (h1 i hp)
  · by_cases e : i = p
    · subst e; exact h3 hi
    · cases he : hit l wd i
      · rfl
      · have hk : keyL (l.getD i []) = keyL wd := by simpa [hit] using he
        have h4 := ha i p (by omega) hi
        have h5 := h2 p (Nat.le_refl _) (by omega)
        unfold ltB at h4 h5
        unfold keyL at hk
        rw [hk, h5] at h4
        exact absurd h4 (by simp)

set_option maxRecDepth 100000 in
set_option maxHeartbeats 8000000 in
theorem search_any (a : Option Addr) (n cap : Nat) (xs : List (List Int)) (wa : Option Addr) (wn wc : Nat) (wd : List Int) (w : World) {lo hi lo' hi' : Nat} (h : RSS lo hi w a n cap xs) (h' : Rd lo' hi' w wa wn wc wd) (ha : Asc xs) (hn : n ≤ 1048576) :
    Calls Try.prog 77 #[.slice a n cap, .slice wa wn wc, .func (.func 67) #[] #[]] w fun e w' => ∃ (i : Nat) (f : Bool), e = .returned (.tuple #[.int .i64 i, .bool f]) ∧ (f = true → idxO xs wd = some i) ∧ (f = false → idxO xs wd = none) ∧ w' = w := by
  have HR : Hid (RSS lo hi w a n cap xs) := h
  have HW : Hid (Rd lo' hi' w wa wn wc wd) := h'
  have HL : Hid (xs.length = n) := h.len
  have HA : Hid (Asc xs) := ha
  clear h h' ha
  go_enter Try.func77, Try.ntmps77
  go_wp2_with fail
  go_loopw [9, 10] (fun s9 s10 wr => ∃ p q : Nat, s9 = .int .i64 p ∧ s10 = .int .i64 q ∧ p ≤ q ∧ q ≤ n ∧ (∀ t, t < p → ltB (xs.getD t []) wd = true) ∧ (∀ t, q ≤ t → t < xs.length → ltB (xs.getD t []) wd = false) ∧ wr = w) (fun s9 s10 _ => (intOf s10).toNat - (intOf s9).toNat)
  case atStart => exact ⟨0, n, rfl, rfl, Nat.zero_le _, Nat.le_refl _, fun t ht => by omega, fun t h1 h2 => by rw [HL.out] at h2; omega, rfl⟩
  case round =>
    obtain ⟨p, q, rfl, rfl, hpq, hqn, hlow, hhigh, hwr⟩ := hrel
    subst hwr
    have HLow : Hid (∀ t, t < p → ltB (xs.getD t []) wd = true) := hlow
    have HHigh : Hid (∀ t, q ≤ t → t < xs.length → ltB (xs.getD t []) wd = false) := hhigh
    clear hlow hhigh
    by_cases hlt : p < q
    · rcases HR.out.cells with hz | ⟨b, off, e1, _, _, hc⟩
      · omega
      · subst e1
        obtain ⟨v, c0, ea, en, ec, rfl, hr⟩ := hc ((p + q) / 2) (by omega)
        have HE : Hid (Rd lo hi wr ea en ec (xs.getD ((p + q) / 2) [])) := hr
        obtain ⟨cv, hcv⟩ : ∃ cv, cmpZ (xs.getD ((p + q) / 2) []) wd = cv := ⟨_, rfl⟩
        have HCv : Hid (cmpZ (xs.getD ((p + q) / 2) []) wd = cv) := hcv
        have HLt : Hid (decide (0 ≤ cv) = !(ltB (xs.getD ((p + q) / 2) []) wd)) := by unfold Hid; rw [← hcv]; exact cmp_lt _ _
        clear hc hr hcv
        by_cases h0 : cv < 0
        · have HT : Hid (ltB (xs.getD ((p + q) / 2) []) wd = true) := by
            have := HLt.out
            rw [decide_eq_false (by omega)] at this
            unfold Hid
            cases e : ltB (xs.getD ((p + q) / 2) []) wd
            · rw [e] at this; exact absurd this (by simp)
            · rfl
          have HLow2 : Hid (∀ t, t < (p + q) / 2 + 1 → ltB (xs.getD t []) wd = true) := fun t ht => by
            by_cases e : t = (p + q) / 2
            · rw [e]; exact HT.out
            · exact less_trans _ _ _ (HA.out ((p + q) / 2) t (by omega) (by rw [HL.out]; omega)) HT.out
          go_wp2_with (go_at_call 67; refine (bytesCompare_any HE.out HW.out).mono ?_; rintro e w5 ⟨rfl, hw5⟩; rw [hw5, HCv.out]; clear hw5)
          go_roundw
          case rel => exact ⟨(p + q) / 2 + 1, q, by rw [show ((p : Int) + (q : Int)) / 2 + 1 = (((p + q) / 2 + 1 : Nat) : Int) by omega], rfl, by omega, hqn, HLow2.out, HHigh.out, by first | rfl | trivial⟩
          case measure => simp [intOf]; omega
        · have hge : 0 ≤ cv := by omega
          have HT : Hid (ltB (xs.getD ((p + q) / 2) []) wd = false) := by
            have := HLt.out
            rw [decide_eq_true hge] at this
            unfold Hid
            cases e : ltB (xs.getD ((p + q) / 2) []) wd
            · rfl
            · rw [e] at this; exact absurd this (by simp)
          have HHigh2 : Hid (∀ t, (p + q) / 2 ≤ t → t < xs.length → ltB (xs.getD t []) wd = false) := fun t h1 h2 => by
            by_cases e : t = (p + q) / 2
            · rw [e]; exact HT.out
            · cases e2 : ltB (xs.getD t []) wd
              · rfl
              · have := less_trans _ _ _ (HA.out t ((p + q) / 2) (by omega) h2) e2
                have h3 := HT.out
                unfold ltB at h3
                rw [h3] at this
                exact absurd this (by simp)
          go_wp2_with (go_at_call 67; refine (bytesCompare_any HE.out HW.out).mono ?_; rintro e w5 ⟨rfl, hw5⟩; rw [hw5, HCv.out]; clear hw5)
          go_roundw
          case rel => exact ⟨p, (p + q) / 2, rfl, by rw [show ((p : Int) + (q : Int)) / 2 = (((p + q) / 2 : Nat) : Int) by omega], by omega, by omega, HLow.out, HHigh2.out, by first | rfl | trivial⟩
          case measure => simp [intOf]; omega
    · have HPQ : Hid (p = q) := by unfold Hid; omega
      have hd : decide ((p : Int) < (q : Int)) = false := by simp; omega
      have hd' : decide (p < q) = false := by simp; omega
      by_cases hpn : p < n
      · rcases HR.out.cells with hz | ⟨b, off, e1, _, _, hc⟩
        · omega
        · subst e1
          obtain ⟨v, c0, ea, en, ec, rfl, hr⟩ := hc p hpn
          have HE : Hid (Rd lo hi wr ea en ec (xs.getD p [])) := hr
          obtain ⟨cv, hcv⟩ : ∃ cv, cmpZ (xs.getD p []) wd = cv := ⟨_, rfl⟩
          have HCv : Hid (cmpZ (xs.getD p []) wd = cv) := hcv
          have HEq : Hid (decide (cv = 0) = hit xs wd p) := by unfold Hid; rw [← hcv]; exact cmp_zero _ _
          have hpi : (p : Int) < (n : Int) := by omega
          clear hc hr hcv hlt
          by_cases h0 : cv = 0
          · have HG : Hid (idxO xs wd = some p) := idx_some (by rw [HL.out]; exact hpn) (by rw [← HEq.out]; exact decide_eq_true h0) (fun j hj => hit_not (HLow.out j hj))
            subst h0
            go_wp2_with (go_at_call 67; refine (bytesCompare_any HE.out HW.out).mono ?_; rintro e w5 ⟨rfl, hw5⟩; rw [hw5, HCv.out]; clear hw5)
            refine bodyPost_ret (v := .tuple #[.int .i64 p, .bool true]) (by simp [results, Try.results77, go_sem]) rfl ?_
            exact ⟨p, true, rfl, fun _ => HG.out, fun h => by simp at h, rfl⟩
          · have hd0 : (cv == 0) = false := by simpa using h0
            have hd1 : decide (cv = 0) = false := decide_eq_false h0
            have HG : Hid (idxO xs wd = none) := search_end HA.out HLow.out (by rw [HPQ.out]; exact HHigh.out) (fun _ => by rw [← HEq.out]; exact hd1)
            go_wp2_with (go_at_call 67; refine (bytesCompare_any HE.out HW.out).mono ?_; rintro e w5 ⟨rfl, hw5⟩; rw [hw5, HCv.out]; clear hw5)
            refine bodyPost_ret (v := .tuple #[.int .i64 p, .bool false]) (by simp [results, Try.results77, go_sem]) rfl ?_
            exact ⟨p, false, rfl, fun h => by simp at h, fun _ => HG.out, rfl⟩
      · have hdn : decide ((p : Int) < (n : Int)) = false := by simp; omega
        have hdn' : decide (p < n) = false := by simp; omega
        have HG : Hid (idxO xs wd = none) := search_end HA.out HLow.out (by rw [HPQ.out]; exact HHigh.out) (fun h => by rw [HL.out] at h; omega)
        clear hlt hpn
        go_wp2_with fail
        refine bodyPost_ret (v := .tuple #[.int .i64 p, .bool false]) (by simp [results, Try.results77, go_sem]) rfl ?_
        exact ⟨p, false, rfl, fun h => by simp at h, fun _ => HG.out, rfl⟩
end

end Go.Proofs.Ytnmljalcndfjmaa
