/- Several texts in one: WdImpl3, WdFind0, WdRel0, WdImpl2, WdImpl4. -/
import Derived.Test.YtnmljalcndfjmaaGreatNG9
import Derived.Deep.RegionWith
namespace Go.Proofs.YtnmljalcndfjmaaGreat

section
open Go.RowKit

def hasB (nx z : Int) : Bool := decide (0 ≤ z ∧ z < nx)

set_option maxRecDepth 100000 in
set_option maxHeartbeats 2000000 in
theorem has_any {ia : Option Addr} {im ic : Nat} {ta : Option Addr} {tn tc : Nat} (nx z : Int) (w : World) :
    Calls Tryz.prog 42 #[.agg #[.int .i64 nx, .slice ia im ic, .slice ta tn tc], .int .i64 z] w fun e w' => e = .returned (.bool (hasB nx z)) ∧ Below w.heap.size w w' := by
  have HB0 : Hid (Below w.heap.size w (w.alloc (.cells #[.int .i64 nx, .slice ia im ic, .slice ta tn tc] 72))) := (Below.refl _ _).alloc (Nat.le_refl _) _
  have HD : Hid (hasB nx z = decide (0 ≤ z ∧ z < nx)) := rfl
  by_cases h0 : 0 ≤ z
  · have hd0 : decide (0 ≤ z) = true := decide_eq_true h0
    by_cases h1 : z < nx
    · have hd1 : decide (z < nx) = true := decide_eq_true h1
      have HG : Hid (hasB nx z = true) := by rw [Hid, HD.out]; exact decide_eq_true ⟨h0, h1⟩
      go_enter Tryz.func42, Tryz.ntmps42
      go_wp2_with fail
      go_ret
      exact ⟨rb HG.out.symm, HB0.out⟩
    · have hd1 : decide (z < nx) = false := decide_eq_false h1
      have HG : Hid (hasB nx z = false) := by rw [Hid, HD.out]; exact decide_eq_false (fun h => h1 h.2)
      go_enter Tryz.func42, Tryz.ntmps42
      go_wp2_with fail
      go_ret
      exact ⟨rb HG.out.symm, HB0.out⟩
  · have hd0 : decide (0 ≤ z) = false := decide_eq_false h0
    have HG : Hid (hasB nx z = false) := by rw [Hid, HD.out]; exact decide_eq_false (fun h => h0 h.1)
    go_enter Tryz.func42, Tryz.ntmps42
    go_wp2_with fail
    go_ret
    exact ⟨rb HG.out.symm, HB0.out⟩

set_option maxRecDepth 100000 in
set_option maxHeartbeats 4000000 in
theorem peopleOf_any {na : Option Addr} {nn nc : Nat} {sa : Option Addr} {sn sc : Nat} {ra : Option Addr} {rn rc : Nat} {la : Option Addr} {ln lc : Nat} {ia : Option Addr} {im ic : Nat} {ta : Option Addr} {tn tc : Nat} {nx : Int} (w : World) :
    Calls Tryz.prog 72 #[.agg #[.int .i64 nx, .slice na nn nc, .slice sa sn sc, .slice ra rn rc, .slice la ln lc, .slice ia im ic, .slice ta tn tc]] w fun e w' => e = .returned (.agg #[.int .i64 nx, .slice ia im ic, .slice ta tn tc]) ∧ Below w.heap.size w w' := by
  obtain ⟨W0, hW0⟩ : ∃ W0, W0 = w.alloc (.cells #[.int .i64 nx, .slice na nn nc, .slice sa sn sc, .slice ra rn rc, .slice la ln lc, .slice ia im ic, .slice ta tn tc] 27) := ⟨_, rfl⟩
  have HW0 : Hid (W0 = w.alloc (.cells #[.int .i64 nx, .slice na nn nc, .slice sa sn sc, .slice ra rn rc, .slice la ln lc, .slice ia im ic, .slice ta tn tc] 27)) := hW0
  have hb0 : Below w.heap.size w W0 := by rw [hW0]; exact (Below.refl _ _).alloc (Nat.le_refl _) _
  have HB0 : Hid (Below w.heap.size w W0) := hb0
  have hs : W0.heap.size = w.heap.size + 1 := by rw [hW0]; simp
  have hbx : BoxW 27 W0 w.heap.size nx (.slice na nn nc) (.slice sa sn sc) (.slice ra rn rc) (.slice la ln lc) (.slice ia im ic) (.slice ta tn tc) := by rw [hW0]; exact BoxW.new _ w _ _ _ _ _ _ _
  obtain ⟨z0, z1, z2, z3, z4, z5, z6⟩ := hbx.cells
  clear hb0 hW0 hbx
  go_enter Tryz.func72, Tryz.ntmps72
  go_wp2_with fail
  refine bodyPost_ret (v := .agg #[.int .i64 nx, .slice ia im ic, .slice ta tn tc]) (by simp [results, Tryz.results72, go_sem]) rfl ⟨rfl, ?_⟩
  exact ((Below.refl _ _).alloc (Nat.le_refl _) _).alloc (by simp) _

set_option maxRecDepth 100000 in
set_option maxHeartbeats 4000000 in
theorem notHas_any {na : Option Addr} {nn nc : Nat} {sa : Option Addr} {sn sc : Nat} {ra : Option Addr} {rn rc : Nat} {la : Option Addr} {ln lc : Nat} {ia : Option Addr} {im ic : Nat} {ta : Option Addr} {tn tc : Nat} {nx z : Int} {pb : Nat} (w : World) (hbx : BoxW 27 w pb nx (.slice na nn nc) (.slice sa sn sc) (.slice ra rn rc) (.slice la ln lc) (.slice ia im ic) (.slice ta tn tc)) :
    Calls Tryz.prog 71 #[.int .i64 z, .pointer (some ⟨pb, 0, none⟩)] w fun e w' => e = .returned (.bool (!(hasB nx z))) ∧ Below w.heap.size w w' := by
  obtain ⟨z0, z1, z2, z3, z4, z5, z6⟩ := hbx.cells
  clear hbx
  go_enter Tryz.func71, Tryz.ntmps71
  go_wp2_with fail
  refine (peopleOf_any w).mono ?_
  rintro e w1 ⟨rfl, hb1⟩
  have HB1 : Hid (Below w.heap.size w w1) := hb1
  clear hb1 z0 z1 z2 z3 z4 z5 z6
  go_wp2_with fail
  refine (has_any nx z w1).mono ?_
  rintro e w2 ⟨rfl, hb2⟩
  have HB2 : Hid (Below w.heap.size w w2) := HB1.out.trans (hb2.mono HB1.out.size)
  clear hb2
  go_wp2_with fail
  go_ret
  exact ⟨rb rfl, HB2.out⟩

set_option maxRecDepth 100000 in
set_option maxHeartbeats 8000000 in
theorem indexAt_any {na : Option Addr} {nn nc : Nat} {sa : Option Addr} {sn sc : Nat} {ra : Option Addr} {rn rc : Nat} {la : Option Addr} {ln lc : Nat} {ia : Option Addr} {im ic : Nat} {ta : Option Addr} {tn tc : Nat} {nx : Int} {pb : Nat} (a : Option Addr) (n cap : Nat) (xs : List Int) (w : World) {lo hi : Nat} (h : RI lo hi w a n cap xs) (hhi : hi ≤ w.heap.size) (hbx : BoxW 27 w pb nx (.slice na nn nc) (.slice sa sn sc) (.slice ra rn rc) (.slice la ln lc) (.slice ia im ic) (.slice ta tn tc)) :
    Calls Tryz.prog 125 #[.slice a n cap, .func (.func 71) #[] #[.pointer (some ⟨pb, 0, none⟩)]] w fun e w' => ∃ i : Int, e = .returned (.int .i64 i) ∧ decide (0 ≤ i) = !(atB xs nx) ∧ Below w.heap.size w w' := by
  have HR : Hid (RI lo hi w a n cap xs) := h
  have HL : Hid (xs.length = n) := h.len
  have HP : Hid (BoxW 27 w pb nx (.slice na nn nc) (.slice sa sn sc) (.slice ra rn rc) (.slice la ln lc) (.slice ia im ic) (.slice ta tn tc)) := hbx
  have hpl : pb < w.heap.size := hbx.lt
  have hf := h.fits
  clear h hbx
  go_enter Tryz.func125, Tryz.ntmps125
  go_upto_region 2 with fail
  go_loopw [8] (fun i wr => ∃ k : Nat, k ≤ n ∧ i = .int .i64 k ∧ (List.range k).all (fun i => hasB nx (xs.getD i 0)) = true ∧ Below w.heap.size w wr) (fun i _ => n - (intOf i).toNat)
  case atStart => exact ⟨0, Nat.zero_le _, rfl, by simp, Below.refl _ _⟩
  case round =>
    obtain ⟨k, hk, rfl, hall, hbel⟩ := hrel
    have HAll : Hid ((List.range k).all (fun i => hasB nx (xs.getD i 0)) = true) := hall
    have HBe : Hid (Below w.heap.size w wr) := hbel
    have HPr : Hid (BoxW 27 wr pb nx (.slice na nn nc) (.slice sa sn sc) (.slice ra rn rc) (.slice la ln lc) (.slice ia im ic) (.slice ta tn tc)) := HP.out.below hbel hpl
    have hszr := hbel.size
    clear hall
    by_cases hlt : k < n
    · rcases (HR.out.below hbel hhi).cells with hz | ⟨b, off, e1, _, _, hc⟩
      · omega
      · subst e1
        obtain ⟨v, c0, rfl⟩ := hc k hlt
        obtain ⟨z, hz⟩ : ∃ z, z = xs.getD k 0 := ⟨_, rfl⟩
        rw [← hz] at c0
        have HZz : Hid (z = xs.getD k 0) := hz
        have hki : (k : Int) < (n : Int) := by omega
        clear hc hz hbel
        go_wp2_with fail
        refine (notHas_any wr HPr.out).mono ?_
        rintro e w5 ⟨rfl, hb5⟩
        have HB5 : Hid (Below w.heap.size w w5) := HBe.out.trans (hb5.mono hszr)
        clear hb5
        cases hq : hasB nx z
        · have HE : Hid (atB xs nx = false) := range_all_false (by rw [HL.out]; exact hlt) (by rw [← HZz.out]; exact hq)
          clear hq
          go_wp2_with fail
          go_ret
          exact ⟨k, rfl, by rw [HE.out]; simp, HB5.out⟩
        · have HS : Hid ((List.range (k + 1)).all (fun i => hasB nx (xs.getD i 0)) = true) := by unfold Hid; rw [range_all_succ, HAll.out, ← HZz.out, hq]; rfl
          clear hq
          go_wp2_with fail
          go_roundw
          case rel => exact ⟨k + 1, by omega, by go_num, HS.out, HB5.out⟩
          case measure => simp [intOf]; omega
    · have HF : Hid (atB xs nx = true) := by rw [Hid, atB, HL.out, show n = k by omega]; exact HAll.out
      have hge : decide ((k : Int) < (n : Int)) = false := by simp; omega
      clear hbel
      go_wp2_with fail
      go_ret
      exact ⟨-1, rfl, by rw [HF.out]; simp, HBe.out⟩

set_option maxRecDepth 100000 in
theorem hasAt_any {na : Option Addr} {nn nc : Nat} {sa : Option Addr} {sn sc : Nat} {ra : Option Addr} {rn rc : Nat} {la : Option Addr} {ln lc : Nat} {ia : Option Addr} {im ic : Nat} {ta : Option Addr} {tn tc : Nat} {nx : Int} {pb : Nat} (a : Option Addr) (n cap : Nat) (xs : List Int) (w : World) {lo hi : Nat} (h : RI lo hi w a n cap xs) (hhi : hi ≤ w.heap.size) (hbx : BoxW 27 w pb nx (.slice na nn nc) (.slice sa sn sc) (.slice ra rn rc) (.slice la ln lc) (.slice ia im ic) (.slice ta tn tc)) :
    Calls Tryz.prog 70 #[.slice a n cap, .func (.func 71) #[] #[.pointer (some ⟨pb, 0, none⟩)]] w fun e w' => e = .returned (.bool (!(atB xs nx))) ∧ Below w.heap.size w w' := by
  have HR : Hid (RI lo hi w a n cap xs) := h
  have HP : Hid (BoxW 27 w pb nx (.slice na nn nc) (.slice sa sn sc) (.slice ra rn rc) (.slice la ln lc) (.slice ia im ic) (.slice ta tn tc)) := hbx
  clear h hbx
  go_enter Tryz.func70, Tryz.ntmps70
  go_wp2_with fail
  refine (indexAt_any a n cap xs w HR.out hhi HP.out).mono ?_
  rintro e w5 ⟨i, rfl, hi5, hb5⟩
  have HB5 : Hid (Below w.heap.size w w5) := hb5
  have HI : Hid (decide (0 ≤ i) = !(atB xs nx)) := hi5
  clear hi5 hb5
  by_cases hi0 : 0 ≤ i
  · go_wp2_with fail
    go_ret
    exact ⟨rb (by rw [← HI.out]; simp [hi0]), HB5.out⟩
  · go_wp2_with fail
    go_ret
    exact ⟨rb (by rw [← HI.out]), HB5.out⟩
end

section
open Go.RowKit

def keyL (zs : List Int) : List UInt8 := (strOfNums zs).toList
def hit (l : List (List Int)) (wd : List Int) (i : Nat) : Bool := keyL (l.getD i []) == keyL wd
def idxO (l : List (List Int)) (wd : List Int) : Option Nat := (List.range l.length).find? (hit l wd)
def flagO (l : List (List Int)) (s : List (List Bool)) (wd : List Int) (q : Nat) : Bool := match idxO l wd with | some i => (s.getD i []).getD q false | none => false
def inSetB (x : WD) (wd : List Int) (z : Int) : Bool := worldB x && (hasB x.n z && flagO x.names x.sets wd z.toNat)

theorem idx_some {l : List (List Int)} {wd : List Int} {i : Nat} (hi : i < l.length) (he : hit l wd i = true) (hm : ∀ j, j < i → hit l wd j = false) : idxO l wd = some i := by
  unfold idxO
  rw [List.find?_range_eq_some]
  exact ⟨he, by simpa using hi, fun j hj => by simp [hm j hj]⟩

theorem idx_none {l : List (List Int)} {wd : List Int} (h : ∀ i, i < l.length → hit l wd i = false) : idxO l wd = none := by
  unfold idxO
  rw [List.find?_range_eq_none]
  exact fun i hi => by simp [h i hi]

theorem idx_of {l : List (List Int)} {wd : List Int} {i : Nat} (h : idxO l wd = some i) : i < l.length := by
  unfold idxO at h
  rw [List.find?_range_eq_some] at h
  simpa using h.2.1

theorem flags_long {s : List (List Bool)} {m : Int} (h : flagsB s m = true) {i : Nat} (hi : i < s.length) : ((s.getD i []).length : Int) = m := by
  unfold flagsB at h
  rw [List.all_eq_true] at h
  simpa using h i (by simpa using hi)
end

section
open Go.RowKit

def relO (x : WD) (wd : List Int) (p q L : Nat) : Bool := flagO x.roles x.rels wd (p * L + q)
theorem cell_lt {p q L : Nat} (hp : p < L) (hq : q < L) : p * L + q < L * L := by
  have h1 : (p + 1) * L ≤ L * L := Nat.mul_le_mul_right L hp
  have h2 : (p + 1) * L = p * L + L := by rw [Nat.add_mul, Nat.one_mul]
  omega
end

section
open Go.RowKit

theorem flagAt_any (a : Option Addr) (n cap pb : Nat) (m : Int) (w : World) (hp : w.cell? ⟨pb, 0, none⟩ = some (.int .i64 m)) :
    Calls Tryz.prog 124 #[.slice a n cap, .pointer (some ⟨pb, 0, none⟩)] w fun e w' => e = .returned (.bool ((n : Int) != m)) ∧ w' = w := by
  go_enter Tryz.func124, Tryz.ntmps124
  go_wp2_with fail
  go_ret
  exact ⟨rfl, rfl⟩

set_option maxRecDepth 100000 in
set_option maxHeartbeats 8000000 in
theorem indexFlags_any (a : Option Addr) (n cap pb : Nat) (m : Int) (xs : List (List Bool)) (w : World) {lo hi : Nat} (h : RFF lo hi w a n cap xs) (hp : w.cell? ⟨pb, 0, none⟩ = some (.int .i64 m)) :
    Calls Tryz.prog 154 #[.slice a n cap, .func (.func 124) #[] #[.pointer (some ⟨pb, 0, none⟩)]] w fun e w' => ∃ i : Int, e = .returned (.int .i64 i) ∧ decide (0 ≤ i) = !(flagsB xs m) ∧ w' = w := by
  have HR : Hid (RFF lo hi w a n cap xs) := h
  have HL : Hid (xs.length = n) := h.len
  have HP : Hid (w.cell? ⟨pb, 0, none⟩ = some (.int .i64 m)) := hp
  have hf := h.fits
  clear h hp
  go_enter Tryz.func154, Tryz.ntmps154
  go_upto_region 2 with fail
  go_loopw [8] (fun i wr => ∃ k : Nat, k ≤ n ∧ i = .int .i64 k ∧ (List.range k).all (fun i => decide (((xs.getD i []).length : Int) = m)) = true ∧ wr = w) (fun i _ => n - (intOf i).toNat)
  case atStart => exact ⟨0, Nat.zero_le _, rfl, by simp, rfl⟩
  case round =>
    obtain ⟨k, hk, rfl, hall, rfl⟩ := hrel
    have HAll : Hid ((List.range k).all (fun i => decide (((xs.getD i []).length : Int) = m)) = true) := hall
    clear hall
    by_cases hlt : k < n
    · rcases HR.out.cells with hz | ⟨b, off, e1, _, _, hc⟩
      · omega
      · subst e1
        obtain ⟨v, c0, ea, en, ec, rfl, hr⟩ := hc k hlt
        have HLn : Hid ((xs.getD k []).length = en) := hr.len
        have hki : (k : Int) < (n : Int) := by omega
        clear hc hr
        go_wp2_with fail
        refine (flagAt_any ea en ec pb m _ HP.out).mono ?_
        rintro e w5 ⟨rfl, hw5⟩
        rw [hw5]
        clear hw5
        by_cases hq : (en : Int) = m
        · have hb : ((en : Int) != m) = false := by simp; omega
          have HS : Hid ((List.range (k + 1)).all (fun i => decide (((xs.getD i []).length : Int) = m)) = true) := by unfold Hid; rw [range_all_succ, HAll.out, HLn.out, decide_eq_true hq]; rfl
          clear hq
          rw [hb]
          go_wp2_with fail
          go_roundw
          case rel => exact ⟨k + 1, by omega, by go_num, HS.out, by first | rfl | trivial⟩
          case measure => simp [intOf]; omega
        · have hb : ((en : Int) != m) = true := by simp; omega
          have HE : Hid (flagsB xs m = false) := range_all_false (by rw [HL.out]; exact hlt) (by rw [HLn.out]; exact decide_eq_false hq)
          clear hq
          rw [hb]
          go_wp2_with fail
          go_ret
          exact ⟨k, rfl, by rw [HE.out]; simp, rfl⟩
    · have HF : Hid (flagsB xs m = true) := by rw [Hid, flagsB, HL.out, show n = k by omega]; exact HAll.out
      have hge : decide ((k : Int) < (n : Int)) = false := by simp; omega
      go_wp2_with fail
      go_ret
      exact ⟨-1, rfl, by rw [HF.out]; simp, rfl⟩

set_option maxRecDepth 100000 in
theorem hasFlags_any (a : Option Addr) (n cap pb : Nat) (m : Int) (xs : List (List Bool)) (w : World) {lo hi : Nat} (h : RFF lo hi w a n cap xs) (hp : w.cell? ⟨pb, 0, none⟩ = some (.int .i64 m)) :
    Calls Tryz.prog 123 #[.slice a n cap, .func (.func 124) #[] #[.pointer (some ⟨pb, 0, none⟩)]] w fun e w' => e = .returned (.bool (!(flagsB xs m))) ∧ w' = w := by
  have HR : Hid (RFF lo hi w a n cap xs) := h
  have HP : Hid (w.cell? ⟨pb, 0, none⟩ = some (.int .i64 m)) := hp
  clear h hp
  go_enter Tryz.func123, Tryz.ntmps123
  go_wp2_with fail
  refine (indexFlags_any a n cap pb m xs w HR.out HP.out).mono ?_
  rintro e w5 ⟨i, rfl, hi5, hw5⟩
  rw [hw5]
  have HI : Hid (decide (0 ≤ i) = !(flagsB xs m)) := hi5
  clear hi5 hw5
  by_cases hi0 : 0 ≤ i
  · go_wp2_with fail
    go_ret
    exact ⟨rb (by rw [← HI.out]; simp [hi0]), rfl⟩
  · go_wp2_with fail
    go_ret
    exact ⟨rb (by rw [← HI.out]), rfl⟩

set_option maxRecDepth 100000 in
set_option maxHeartbeats 4000000 in
theorem flagsFit_any (a : Option Addr) (n cap q : Nat) (m : Int) (xs : List (List Bool)) (w : World) {lo hi : Nat} (h : RFF lo hi w a n cap xs) (hhi : hi ≤ w.heap.size) :
    Calls Tryz.prog 69 #[.slice a n cap, .int .i64 q, .int .i64 m] w fun e w' => e = .returned (.bool (decide (n = q) && flagsB xs m)) ∧ Below w.heap.size w w' := by
  obtain ⟨W0, hW0⟩ : ∃ W0, W0 = w.alloc (.cells #[.int .i64 m] 3) := ⟨_, rfl⟩
  have HW0 : Hid (W0 = w.alloc (.cells #[.int .i64 m] 3)) := hW0
  have hb0 : Below w.heap.size w W0 := by rw [hW0]; exact (Below.refl _ _).alloc (Nat.le_refl _) _
  have HB0 : Hid (Below w.heap.size w W0) := hb0
  have HP : Hid (W0.cell? ⟨w.heap.size, 0, none⟩ = some (.int .i64 m)) := by
    unfold Hid; rw [hW0]
    have := World.alloc_heap_new w (.cells #[.int .i64 m] 3)
    unfold World.cell?
    simp only [this]
    rfl
  have HR : Hid (RFF lo hi W0 a n cap xs) := h.below hb0 hhi
  have hf := h.fits
  clear h hb0 hW0
  by_cases hq : n = q
  · have HQ : Hid (decide (n = q) = true) := decide_eq_true hq
    have hd : ((n : Int) == (q : Int)) = true := by simp; omega
    have hd2 : decide (n = q) = true := decide_eq_true hq
    clear hq
    go_enter Tryz.func69, Tryz.ntmps69
    go_upto_region 1 with fail
    rw [← HW0.out]
    go_wp2_with (go_at_call 123; refine (hasFlags_any a n cap w.heap.size m xs W0 HR.out HP.out).mono ?_; rintro e w5 ⟨rfl, hw5⟩; rw [hw5]; clear hw5)
    go_ret
    exact ⟨rb (by rw [HQ.out]; simp), HB0.out⟩
  · have HQ : Hid (decide (n = q) = false) := decide_eq_false hq
    have hd : ((n : Int) == (q : Int)) = false := by simp; omega
    have hd2 : decide (n = q) = false := decide_eq_false hq
    clear hq
    go_enter Tryz.func69, Tryz.ntmps69
    go_upto_region 1 with fail
    rw [← HW0.out]
    go_wp2_with fail
    go_ret
    exact ⟨rb (by rw [HQ.out]; simp), HB0.out⟩
end

section
open Go.RowKit

set_option maxRecDepth 100000 in
set_option maxHeartbeats 16000000 in
theorem implWorldOk_any {na : Option Addr} {nn nc : Nat} {sa : Option Addr} {sn sc : Nat} {ra : Option Addr} {rn rc : Nat} {la : Option Addr} {ln lc : Nat} {ia : Option Addr} {im ic : Nat} {ta : Option Addr} {tn tc : Nat} {x : WD} {w : World} {lo hi : Nat} {nx : Int} (h : RdW lo hi w na nn nc sa sn sc ra rn rc la ln lc ia im ic ta tn tc x) (hn : x.n = nx) (hhi : hi ≤ w.heap.size) :
    Calls Tryz.prog 28 #[.agg #[.int .i64 nx, .slice na nn nc, .slice sa sn sc, .slice ra rn rc, .slice la ln lc, .slice ia im ic, .slice ta tn tc]] w fun e w' => e = .returned (.bool (worldB x)) ∧ Below w.heap.size w w' := by
  obtain ⟨W0, hW0⟩ : ∃ W0, W0 = w.alloc (.cells #[.int .i64 nx, .slice na nn nc, .slice sa sn sc, .slice ra rn rc, .slice la ln lc, .slice ia im ic, .slice ta tn tc] 27) := ⟨_, rfl⟩
  have HW0 : Hid (W0 = w.alloc (.cells #[.int .i64 nx, .slice na nn nc, .slice sa sn sc, .slice ra rn rc, .slice la ln lc, .slice ia im ic, .slice ta tn tc] 27)) := hW0
  have hb0 : Below w.heap.size w W0 := by rw [hW0]; exact (Below.refl _ _).alloc (Nat.le_refl _) _
  have HB0 : Hid (Below w.heap.size w W0) := hb0
  have hbx : BoxW 27 W0 w.heap.size nx (.slice na nn nc) (.slice sa sn sc) (.slice ra rn rc) (.slice la ln lc) (.slice ia im ic) (.slice ta tn tc) := by rw [hW0]; exact BoxW.new _ w _ _ _ _ _ _ _
  have HAt : Hid (∀ W, Below W0.heap.size W0 W → BoxW 27 W w.heap.size nx (.slice na nn nc) (.slice sa sn sc) (.slice ra rn rc) (.slice la ln lc) (.slice ia im ic) (.slice ta tn tc)) := fun W hW => hbx.below hW hbx.lt
  have HRd : Hid (∀ W, Below W0.heap.size W0 W → RdW lo hi W na nn nc sa sn sc ra rn rc la ln lc ia im ic ta tn tc x) := fun W hW => (h.below hb0 hhi).below hW (Nat.le_trans hhi hb0.size)
  have HHi : Hid (∀ W, Below W0.heap.size W0 W → hi ≤ W.heap.size) := fun W hW => Nat.le_trans (Nat.le_trans hhi hb0.size) hW.size
  have HBd : Hid (∀ W, Below W0.heap.size W0 W → Below w.heap.size w W) := fun W hW => hb0.trans (hW.mono hb0.size)
  have HZ : Hid (Below W0.heap.size W0 W0) := Below.refl _ _
  obtain ⟨z0, z1, z2, z3, z4, z5, z6⟩ := hbx.cells
  have HI : Hid _ := worldB_iff x
  rw [hn, h.names.len, h.sets.len, h.roles.len, h.rels.len, h.inds.len, h.at'.len] at HI
  have f1 := h.names.fits
  have f2 := h.sets.fits
  have f3 := h.roles.fits
  have f4 := h.rels.fits
  have f5 := h.inds.fits
  have f6 := h.at'.fits
  clear h hb0 hW0 hbx hn
  by_cases t0 : 1 ≤ nx
  case neg =>
    have HE : Hid (worldB x = false) := worldB_no (fun e => by have e2 := (HI.out.1 e).1; omega)
    have g0 : decide (1 ≤ nx) = false := decide_eq_false t0
    clear t0
    go_enter Tryz.func28, Tryz.ntmps28
    go_upto_region 1 with fail
    rw [← HW0.out]
    go_wp2_with fail
    go_ret
    exact ⟨rb HE.out.symm, HB0.out⟩
  have g0 : decide (1 ≤ nx) = true := decide_eq_true t0
  by_cases t1 : nx ≤ 128
  case neg =>
    have HE : Hid (worldB x = false) := worldB_no (fun e => by have e2 := (HI.out.1 e).1; omega)
    have g1 : decide (nx ≤ 128) = false := decide_eq_false t1
    clear t1
    go_enter Tryz.func28, Tryz.ntmps28
    go_upto_region 1 with fail
    rw [← HW0.out]
    go_wp2_with fail
    go_ret
    exact ⟨rb HE.out.symm, HB0.out⟩
  have g1 : decide (nx ≤ 128) = true := decide_eq_true t1
  obtain ⟨m, HM⟩ : ∃ m, Hid (nx * nx = m) := ⟨_, rfl⟩
  have hmb : 0 ≤ m ∧ m ≤ 16384 := by
    have h2 : nx * nx ≤ 128 * 128 := Int.mul_le_mul t1 t1 (by omega) (by omega)
    have h3 : 0 ≤ nx * nx := Int.mul_nonneg (by omega) (by omega)
    rw [HM.out] at h2 h3
    omega
  have hmm : nx * nx = m := HM.out
  have HT : Hid (1 ≤ nx ∧ nx ≤ 128) := ⟨t0, t1⟩
  clear t0 t1
  cases hA : (decide (nn ≤ 12) && namesB true x.names)
  · have HE : Hid (worldB x = false) := worldB_no (fun e => by
        obtain ⟨⟨n1, n2, n3, n4, n5, n6, n7⟩, ⟨m1, m2, m3⟩, l1, l2, l3⟩ := HI.out.1 e
        simp [n2, m1] at hA)
    go_enter Tryz.func28, Tryz.ntmps28
    go_upto_region 1 with fail
    rw [← HW0.out]
    go_wp2_with (first | (go_at_call_of 67 na; refine (wordsFitU_any na nn nc 12 x.names _ (HRd.out _ HZ.out).names).mono ?_; rintro e wq ⟨rfl, hq⟩; rw [hq, hA]; clear hq))
    go_ret
    exact ⟨rb HE.out.symm, HBd.out _ HZ.out⟩
  cases hB : (decide (sn = nn) && flagsB x.sets nx)
  · have HE : Hid (worldB x = false) := worldB_no (fun e => by
        obtain ⟨⟨n1, n2, n3, n4, n5, n6, n7⟩, ⟨m1, m2, m3⟩, l1, l2, l3⟩ := HI.out.1 e
        simp [n5, l1] at hB)
    go_enter Tryz.func28, Tryz.ntmps28
    go_upto_region 1 with fail
    rw [← HW0.out]
    go_wp2_with (first | (go_at_call_of 67 na; refine (wordsFitU_any na nn nc 12 x.names _ (HRd.out _ HZ.out).names).mono ?_; rintro e wq ⟨rfl, hq⟩; rw [hq, hA]; clear hq) | (go_at_call_of 69 sa; refine (flagsFit_any sa sn sc nn nx x.sets _ (HRd.out _ HZ.out).sets (HHi.out _ HZ.out)).mono ?_; rintro e wB ⟨rfl, hq⟩; rw [hB]; have HwB : Hid (Below W0.heap.size W0 wB) := HZ.out.trans (hq.mono HZ.out.size); clear hq z0 z1 z2 z3 z4 z5 z6; obtain ⟨z0, z1, z2, z3, z4, z5, z6⟩ := (HAt.out _ HwB.out).cells))
    go_ret
    exact ⟨rb HE.out.symm, HBd.out _ HwB.out⟩
  cases hC : (decide (rn ≤ 6) && namesB false x.roles)
  · have HE : Hid (worldB x = false) := worldB_no (fun e => by
        obtain ⟨⟨n1, n2, n3, n4, n5, n6, n7⟩, ⟨m1, m2, m3⟩, l1, l2, l3⟩ := HI.out.1 e
        simp [n3, m2] at hC)
    go_enter Tryz.func28, Tryz.ntmps28
    go_upto_region 1 with fail
    rw [← HW0.out]
    go_wp2_with (first | (go_at_call_of 67 na; refine (wordsFitU_any na nn nc 12 x.names _ (HRd.out _ HZ.out).names).mono ?_; rintro e wq ⟨rfl, hq⟩; rw [hq, hA]; clear hq) | (go_at_call_of 69 sa; refine (flagsFit_any sa sn sc nn nx x.sets _ (HRd.out _ HZ.out).sets (HHi.out _ HZ.out)).mono ?_; rintro e wB ⟨rfl, hq⟩; rw [hB]; have HwB : Hid (Below W0.heap.size W0 wB) := HZ.out.trans (hq.mono HZ.out.size); clear hq z0 z1 z2 z3 z4 z5 z6; obtain ⟨z0, z1, z2, z3, z4, z5, z6⟩ := (HAt.out _ HwB.out).cells) | (go_at_call_of 67 ra; refine (wordsFitL_any ra rn rc 6 x.roles _ (HRd.out _ HwB.out).roles).mono ?_; rintro e wq ⟨rfl, hq⟩; rw [hq, hC]; clear hq))
    go_ret
    exact ⟨rb HE.out.symm, HBd.out _ HwB.out⟩
  cases hD : (decide (ln = rn) && flagsB x.rels m)
  · have HE : Hid (worldB x = false) := worldB_no (fun e => by
        obtain ⟨⟨n1, n2, n3, n4, n5, n6, n7⟩, ⟨m1, m2, m3⟩, l1, l2, l3⟩ := HI.out.1 e
        rw [HM.out] at l2; simp [n6, l2] at hD)
    go_enter Tryz.func28, Tryz.ntmps28
    go_upto_region 1 with fail
    rw [← HW0.out]
    go_wp2_with (first | (go_at_call_of 67 na; refine (wordsFitU_any na nn nc 12 x.names _ (HRd.out _ HZ.out).names).mono ?_; rintro e wq ⟨rfl, hq⟩; rw [hq, hA]; clear hq) | (go_at_call_of 69 sa; refine (flagsFit_any sa sn sc nn nx x.sets _ (HRd.out _ HZ.out).sets (HHi.out _ HZ.out)).mono ?_; rintro e wB ⟨rfl, hq⟩; rw [hB]; have HwB : Hid (Below W0.heap.size W0 wB) := HZ.out.trans (hq.mono HZ.out.size); clear hq z0 z1 z2 z3 z4 z5 z6; obtain ⟨z0, z1, z2, z3, z4, z5, z6⟩ := (HAt.out _ HwB.out).cells) | (go_at_call_of 67 ra; refine (wordsFitL_any ra rn rc 6 x.roles _ (HRd.out _ HwB.out).roles).mono ?_; rintro e wq ⟨rfl, hq⟩; rw [hq, hC]; clear hq) | (go_at_call_of 69 la; refine (flagsFit_any la ln lc rn m x.rels _ (HRd.out _ HwB.out).rels (HHi.out _ HwB.out)).mono ?_; rintro e wD ⟨rfl, hq⟩; rw [hD]; have HwD : Hid (Below W0.heap.size W0 wD) := HwB.out.trans (hq.mono HwB.out.size); clear hq z0 z1 z2 z3 z4 z5 z6; obtain ⟨z0, z1, z2, z3, z4, z5, z6⟩ := (HAt.out _ HwD.out).cells))
    go_ret
    exact ⟨rb HE.out.symm, HBd.out _ HwD.out⟩
  cases hE : (decide (im ≤ 6) && namesB false x.inds)
  · have HE : Hid (worldB x = false) := worldB_no (fun e => by
        obtain ⟨⟨n1, n2, n3, n4, n5, n6, n7⟩, ⟨m1, m2, m3⟩, l1, l2, l3⟩ := HI.out.1 e
        simp [n4, m3] at hE)
    go_enter Tryz.func28, Tryz.ntmps28
    go_upto_region 1 with fail
    rw [← HW0.out]
    go_wp2_with (first | (go_at_call_of 67 na; refine (wordsFitU_any na nn nc 12 x.names _ (HRd.out _ HZ.out).names).mono ?_; rintro e wq ⟨rfl, hq⟩; rw [hq, hA]; clear hq) | (go_at_call_of 69 sa; refine (flagsFit_any sa sn sc nn nx x.sets _ (HRd.out _ HZ.out).sets (HHi.out _ HZ.out)).mono ?_; rintro e wB ⟨rfl, hq⟩; rw [hB]; have HwB : Hid (Below W0.heap.size W0 wB) := HZ.out.trans (hq.mono HZ.out.size); clear hq z0 z1 z2 z3 z4 z5 z6; obtain ⟨z0, z1, z2, z3, z4, z5, z6⟩ := (HAt.out _ HwB.out).cells) | (go_at_call_of 67 ra; refine (wordsFitL_any ra rn rc 6 x.roles _ (HRd.out _ HwB.out).roles).mono ?_; rintro e wq ⟨rfl, hq⟩; rw [hq, hC]; clear hq) | (go_at_call_of 69 la; refine (flagsFit_any la ln lc rn m x.rels _ (HRd.out _ HwB.out).rels (HHi.out _ HwB.out)).mono ?_; rintro e wD ⟨rfl, hq⟩; rw [hD]; have HwD : Hid (Below W0.heap.size W0 wD) := HwB.out.trans (hq.mono HwB.out.size); clear hq z0 z1 z2 z3 z4 z5 z6; obtain ⟨z0, z1, z2, z3, z4, z5, z6⟩ := (HAt.out _ HwD.out).cells) | (go_at_call_of 67 ia; refine (wordsFitL_any ia im ic 6 x.inds _ (HRd.out _ HwD.out).inds).mono ?_; rintro e wq ⟨rfl, hq⟩; rw [hq, hE]; clear hq))
    go_ret
    exact ⟨rb HE.out.symm, HBd.out _ HwD.out⟩
  by_cases t7 : tn = im
  case neg =>
    have HE : Hid (worldB x = false) := worldB_no (fun e => by have e2 := (HI.out.1 e).1; omega)
    have g7 : ((tn : Int) == (im : Int)) = false := by simp; omega
    have g7' : decide (tn = im) = false := decide_eq_false t7
    clear t7
    go_enter Tryz.func28, Tryz.ntmps28
    go_upto_region 1 with fail
    rw [← HW0.out]
    go_wp2_with (first | (go_at_call_of 67 na; refine (wordsFitU_any na nn nc 12 x.names _ (HRd.out _ HZ.out).names).mono ?_; rintro e wq ⟨rfl, hq⟩; rw [hq, hA]; clear hq) | (go_at_call_of 69 sa; refine (flagsFit_any sa sn sc nn nx x.sets _ (HRd.out _ HZ.out).sets (HHi.out _ HZ.out)).mono ?_; rintro e wB ⟨rfl, hq⟩; rw [hB]; have HwB : Hid (Below W0.heap.size W0 wB) := HZ.out.trans (hq.mono HZ.out.size); clear hq z0 z1 z2 z3 z4 z5 z6; obtain ⟨z0, z1, z2, z3, z4, z5, z6⟩ := (HAt.out _ HwB.out).cells) | (go_at_call_of 67 ra; refine (wordsFitL_any ra rn rc 6 x.roles _ (HRd.out _ HwB.out).roles).mono ?_; rintro e wq ⟨rfl, hq⟩; rw [hq, hC]; clear hq) | (go_at_call_of 69 la; refine (flagsFit_any la ln lc rn m x.rels _ (HRd.out _ HwB.out).rels (HHi.out _ HwB.out)).mono ?_; rintro e wD ⟨rfl, hq⟩; rw [hD]; have HwD : Hid (Below W0.heap.size W0 wD) := HwB.out.trans (hq.mono HwB.out.size); clear hq z0 z1 z2 z3 z4 z5 z6; obtain ⟨z0, z1, z2, z3, z4, z5, z6⟩ := (HAt.out _ HwD.out).cells) | (go_at_call_of 67 ia; refine (wordsFitL_any ia im ic 6 x.inds _ (HRd.out _ HwD.out).inds).mono ?_; rintro e wq ⟨rfl, hq⟩; rw [hq, hE]; clear hq))
    go_ret
    exact ⟨rb HE.out.symm, HBd.out _ HwD.out⟩
  have g7 : ((tn : Int) == (im : Int)) = true := by simp; omega
  have g7' : decide (tn = im) = true := decide_eq_true t7
  have HT7 : Hid (tn = im) := t7
  clear t7
  cases hG : atB x.at' nx
  · have HE : Hid (worldB x = false) := worldB_no (fun e => by have e2 := (HI.out.1 e).2.2.2.2; rw [hG] at e2; exact absurd e2 (by simp))
    go_enter Tryz.func28, Tryz.ntmps28
    go_upto_region 1 with fail
    rw [← HW0.out]
    go_wp2_with (first | (go_at_call_of 67 na; refine (wordsFitU_any na nn nc 12 x.names _ (HRd.out _ HZ.out).names).mono ?_; rintro e wq ⟨rfl, hq⟩; rw [hq, hA]; clear hq) | (go_at_call_of 69 sa; refine (flagsFit_any sa sn sc nn nx x.sets _ (HRd.out _ HZ.out).sets (HHi.out _ HZ.out)).mono ?_; rintro e wB ⟨rfl, hq⟩; rw [hB]; have HwB : Hid (Below W0.heap.size W0 wB) := HZ.out.trans (hq.mono HZ.out.size); clear hq z0 z1 z2 z3 z4 z5 z6; obtain ⟨z0, z1, z2, z3, z4, z5, z6⟩ := (HAt.out _ HwB.out).cells) | (go_at_call_of 67 ra; refine (wordsFitL_any ra rn rc 6 x.roles _ (HRd.out _ HwB.out).roles).mono ?_; rintro e wq ⟨rfl, hq⟩; rw [hq, hC]; clear hq) | (go_at_call_of 69 la; refine (flagsFit_any la ln lc rn m x.rels _ (HRd.out _ HwB.out).rels (HHi.out _ HwB.out)).mono ?_; rintro e wD ⟨rfl, hq⟩; rw [hD]; have HwD : Hid (Below W0.heap.size W0 wD) := HwB.out.trans (hq.mono HwB.out.size); clear hq z0 z1 z2 z3 z4 z5 z6; obtain ⟨z0, z1, z2, z3, z4, z5, z6⟩ := (HAt.out _ HwD.out).cells) | (go_at_call_of 67 ia; refine (wordsFitL_any ia im ic 6 x.inds _ (HRd.out _ HwD.out).inds).mono ?_; rintro e wq ⟨rfl, hq⟩; rw [hq, hE]; clear hq) | (go_at_call 70; refine (hasAt_any ta tn tc x.at' _ (HRd.out _ HwD.out).at' (HHi.out _ HwD.out) (HAt.out _ HwD.out)).mono ?_; rintro e wG ⟨rfl, hq⟩; rw [hG]; have HwG : Hid (Below W0.heap.size W0 wG) := HwD.out.trans (hq.mono HwD.out.size); clear hq))
    go_ret
    exact ⟨rb HE.out.symm, HBd.out _ HwG.out⟩
  have HE : Hid (worldB x = true) := by
    have a1 := hA
    have a2 := hB
    have a3 := hC
    have a4 := hD
    have a5 := hE
    simp only [Bool.and_eq_true, decide_eq_true_eq] at a1 a2 a3 a4 a5
    exact HI.out.2 ⟨⟨HT.out, a1.1, a3.1, a5.1, a2.1, a4.1, HT7.out⟩, ⟨a1.2, a3.2, a5.2⟩, a2.2, by rw [HM.out]; exact a4.2, hG⟩
  go_enter Tryz.func28, Tryz.ntmps28
  go_upto_region 1 with fail
  rw [← HW0.out]
  go_wp2_with (first | (go_at_call_of 67 na; refine (wordsFitU_any na nn nc 12 x.names _ (HRd.out _ HZ.out).names).mono ?_; rintro e wq ⟨rfl, hq⟩; rw [hq, hA]; clear hq) | (go_at_call_of 69 sa; refine (flagsFit_any sa sn sc nn nx x.sets _ (HRd.out _ HZ.out).sets (HHi.out _ HZ.out)).mono ?_; rintro e wB ⟨rfl, hq⟩; rw [hB]; have HwB : Hid (Below W0.heap.size W0 wB) := HZ.out.trans (hq.mono HZ.out.size); clear hq z0 z1 z2 z3 z4 z5 z6; obtain ⟨z0, z1, z2, z3, z4, z5, z6⟩ := (HAt.out _ HwB.out).cells) | (go_at_call_of 67 ra; refine (wordsFitL_any ra rn rc 6 x.roles _ (HRd.out _ HwB.out).roles).mono ?_; rintro e wq ⟨rfl, hq⟩; rw [hq, hC]; clear hq) | (go_at_call_of 69 la; refine (flagsFit_any la ln lc rn m x.rels _ (HRd.out _ HwB.out).rels (HHi.out _ HwB.out)).mono ?_; rintro e wD ⟨rfl, hq⟩; rw [hD]; have HwD : Hid (Below W0.heap.size W0 wD) := HwB.out.trans (hq.mono HwB.out.size); clear hq z0 z1 z2 z3 z4 z5 z6; obtain ⟨z0, z1, z2, z3, z4, z5, z6⟩ := (HAt.out _ HwD.out).cells) | (go_at_call_of 67 ia; refine (wordsFitL_any ia im ic 6 x.inds _ (HRd.out _ HwD.out).inds).mono ?_; rintro e wq ⟨rfl, hq⟩; rw [hq, hE]; clear hq) | (go_at_call 70; refine (hasAt_any ta tn tc x.at' _ (HRd.out _ HwD.out).at' (HHi.out _ HwD.out) (HAt.out _ HwD.out)).mono ?_; rintro e wG ⟨rfl, hq⟩; rw [hG]; have HwG : Hid (Below W0.heap.size W0 wG) := HwD.out.trans (hq.mono HwD.out.size); clear hq))
  go_ret
  exact ⟨rb HE.out.symm, HBd.out _ HwG.out⟩
end

end Go.Proofs.YtnmljalcndfjmaaGreat
