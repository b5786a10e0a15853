/- The program's reader: where it stands, one token taken, which kind a word names: a contract each. -/
import Derived.Test.YthojlfcahhjfaaaNRM
import Derived.Test.YthojlfcahhjfaaaConAdd
namespace Go.Proofs.Ythojlfcahhjfaaa
open Go.RowKit

/-- What a reader gives up with. -/
def gaveUp (p : Int) : Ending := .panicked [{ v := .iface 121 (.int .i64 p), recovered := false }]

theorem hereI_lt {ts : List Tok} {en : Int} {i : Nat} (h : i < ts.length) : hereI ts en i = (ts.getD i Tok.zero).place := if_pos h
theorem hereI_end {ts : List Tok} {en : Int} {i : Nat} (h : ts.length ≤ i) : hereI ts en i = en := if_neg (by omega)

set_option maxHeartbeats 400000 in
theorem here_any (base pb g i : Nat) (ts : List Tok) (gs : List (Nat × Nat)) (en : Int) (w : World) (hR : RdrAt w pb g i ts en) (hT : TkM base pb w g ts gs) (hi : i ≤ ts.length) :
    Calls Try.prog 104 #[.pointer (some ⟨pb, 0, none⟩)] w fun e w' => e = .returned (.int .i64 (hereI ts en i)) ∧ w' = w := by
  obtain ⟨a, c, hB, ha, hc1, hc2⟩ := hR
  obtain ⟨b0, b1⟩ := hB.cells
  by_cases hlt : i < ts.length
  · obtain ⟨c0, c1, c2⟩ := hT.cell i hlt
    have HE := hereI_lt (en := en) hlt
    rcases ha with ha | rfl
    · omega
    · obtain ⟨m, hm⟩ : ∃ m, ts.length - i = m + 1 := ⟨ts.length - i - 1, by omega⟩
      rw [hm] at b0 hc1
      rw [HE]
      obtain ⟨pl, hpl⟩ : ∃ pl, pl = (ts.getD i Tok.zero).place := ⟨_, rfl⟩
      rw [← hpl] at c1 ⊢
      obtain ⟨o, ho⟩ : ∃ o, o = i * 3 := ⟨_, rfl⟩
      rw [← ho] at c1 b0
      clear HE hpl ho hm hT hB hi hlt c0 c2
      go_enter Try.func104, Try.ntmps104
      go_wp2
      go_ret
      exact ⟨rfl, rfl⟩
  · have HE := hereI_end (en := en) (ts := ts) (i := i) (by omega)
    rw [show ts.length - i = 0 by omega] at b0
    rw [HE]
    clear HE hT hB hi hlt ha hc1
    go_enter Try.func104, Try.ntmps104
    go_wp2
    go_ret
    exact ⟨rfl, rfl⟩

set_option maxHeartbeats 400000 in
theorem take_bad (base pb g i : Nat) (ts : List Tok) (gs : List (Nat × Nat)) (en k : Int) (w : World) (hR : RdrAt w pb g i ts en) (hT : TkM base pb w g ts gs) (hi : i ≤ ts.length) (hk : isI ts k i = false) :
    Calls Try.prog 105 #[.pointer (some ⟨pb, 0, none⟩), .int .i64 k] w fun e w' => e = gaveUp (hereI ts en i) ∧ Below w.heap.size w w' := by
  have HR : Hid (RdrAt w pb g i ts en) := hR
  have HT : Hid (TkM base pb w g ts gs) := hT
  obtain ⟨a, c, hB, ha, hc1, hc2⟩ := hR
  have hl := hB.lt
  obtain ⟨b0, b1⟩ := hB.cells
  have hb0 : Below w.heap.size w (w.alloc (.cells #[.int .i64 0, .int .i64 0, .slice none 0 0] 30)) := (Below.refl _ _).alloc (Nat.le_refl _) _
  have HB0 : Hid (Below w.heap.size w (w.alloc (.cells #[.int .i64 0, .int .i64 0, .slice none 0 0] 30))) := hb0
  by_cases hlt : i < ts.length
  · obtain ⟨c0, c1, c2⟩ := hT.cell i hlt
    rcases ha with ha | rfl
    · omega
    · obtain ⟨m, hm⟩ : ∃ m, ts.length - i = m + 1 := ⟨ts.length - i - 1, by omega⟩
      rw [hm] at b0 hc1
      have hne : ((ts.getD i Tok.zero).kind != k) = true := by
        simp only [isI, hlt, decide_true, Bool.true_and, decide_eq_false_iff_not] at hk
        simpa using hk
      have hgl : g < w.heap.size := by rcases hT.glt with h | h <;> omega
      obtain ⟨kd, hkd⟩ : ∃ kd, kd = (ts.getD i Tok.zero).kind := ⟨_, rfl⟩
      rw [← hkd] at c0 hne
      obtain ⟨o, ho⟩ : ∃ o, o = i * 3 := ⟨_, rfl⟩
      rw [← ho] at c0 b0
      clear hkd ho hm hT hB hlt c1 c2 hk hb0
      go_enter Try.func105, Try.ntmps105
      go_wp2_with fail
      refine (here_any base pb g i ts gs en _ (HR.out.below HB0.out) (HT.out.below (HB0.out.mono (Nat.le_of_lt hl))) hi).mono ?_
      rintro e w' ⟨rfl, hw⟩
      rw [hw]; clear hw
      go_wp2
      exact ⟨rfl, rfl, HB0.out⟩
  · rw [show ts.length - i = 0 by omega] at b0
    clear hT hB hlt ha hc1 hk hb0
    go_enter Try.func105, Try.ntmps105
    go_wp2_with fail
    refine (here_any base pb g i ts gs en _ (HR.out.below HB0.out) (HT.out.below (HB0.out.mono (Nat.le_of_lt hl))) hi).mono ?_
    rintro e w' ⟨rfl, hw⟩
    rw [hw]; clear hw
    go_wp2
    exact ⟨rfl, rfl, HB0.out⟩

/-- A token's box. -/
def BoxK3 (W : World) (b : Nat) (v0 v1 v2 : Value) : Prop := W.heap[b]? = some (.cells #[v0, v1, v2] 30 (0, 0))

theorem BoxK3.cells {W : World} {b : Nat} {v0 v1 v2 : Value} (h : BoxK3 W b v0 v1 v2) : W.cell? ⟨b, 0, none⟩ = some v0 ∧ W.cell? ⟨b, 1, none⟩ = some v1 ∧ W.cell? ⟨b, 2, none⟩ = some v2 := by
  unfold BoxK3 at h
  refine ⟨?_, ?_, ?_⟩ <;> simp [World.cell?, h]
theorem BoxK3.frz {W : World} {b : Nat} {v0 v1 v2 : Value} (h : BoxK3 W b v0 v1 v2) (o : Nat) : W.frozen? ⟨b, o, none⟩ = false := by
  unfold BoxK3 at h
  simp [World.frozen?, h]
theorem BoxK3.new (W : World) (v0 v1 v2 : Value) : BoxK3 (W.alloc (.cells #[v0, v1, v2] 30)) W.heap.size v0 v1 v2 := by
  show (W.heap.push _)[W.heap.size]? = _
  simp
theorem BoxK3.of {W W' : World} {b : Nat} {v0 v1 v2 : Value} (h : BoxK3 W b v0 v1 v2) (e : W'.heap[b]? = W.heap[b]?) : BoxK3 W' b v0 v1 v2 := e.trans h
theorem BoxK3.set3 {W : World} {b : Nat} {v0 v1 v2 : Value} (h : BoxK3 W b v0 v1 v2) (x0 x1 x2 : Value) : BoxK3 (((W.setCell ⟨b, 0, none⟩ x0).setCell ⟨b, 1, none⟩ x1).setCell ⟨b, 2, none⟩ x2) b x0 x1 x2 := by
  unfold BoxK3 at h ⊢
  have e0 := heap_setCell_same W b 0 _ _ x0 h
  have e1 := heap_setCell_same _ b 1 _ _ x1 e0
  have e2 := heap_setCell_same _ b 2 _ _ x2 e1
  rw [e2]
  rfl

theorem box_step {w : World} {pb : Nat} {lv : Value} {en : Int} (h : BoxR w pb lv en) (v : Value) (o1 o2 : Obj) : BoxR (((w.setCell ⟨pb, 0, none⟩ v).alloc o1).alloc o2) pb v en := by
  have h1 := h.set0 v
  have h2 : BoxR ((w.setCell ⟨pb, 0, none⟩ v).alloc o1) pb v en := h1.of (Below.heap_alloc _ _ _ h1.lt)
  exact h2.of (Below.heap_alloc _ _ _ h2.lt)

theorem RdrAt.step {w : World} {pb g i' : Nat} {lv : Value} {en : Int} {ts : List Tok} (h : BoxR w pb lv en) (a' : Option Addr) (m' c' : Nat) (o1 o2 : Obj) (hm : m' = ts.length - i') (ha : ts.length = i' ∨ a' = some ⟨g, i' * 3, none⟩) (hc : m' ≤ c') (hc2 : c' ≤ 9223372036854775807) :
    RdrAt (((w.setCell ⟨pb, 0, none⟩ (.slice a' m' c')).alloc o1).alloc o2) pb g i' ts en := ⟨a', c', by rw [← hm]; exact box_step h _ _ _, ha, by omega, hc2⟩

theorem bt_step (w : World) (pb : Nat) (v : Value) (o1 o2 : Obj) : Bt pb w.heap.size w (((w.setCell ⟨pb, 0, none⟩ v).alloc o1).alloc o2) :=
  (((Bt.refl pb w.heap.size w).set (p := ⟨pb, 0, none⟩) (.inr rfl) v).alloc (by simp) o1).alloc (by simp) o2

set_option maxHeartbeats 800000 in
theorem take_ok (base pb g i : Nat) (ts : List Tok) (gs : List (Nat × Nat)) (en k : Int) (w : World) (hR : RdrAt w pb g i ts en) (hT : TkM base pb w g ts gs) (hk : isI ts k i = true) :
    Calls Try.prog 105 #[.pointer (some ⟨pb, 0, none⟩), .int .i64 k] w fun e w' => e = .returned (.agg #[.int .i64 k, .int .i64 (hereI ts en i), txv (ts.getD i Tok.zero) (gs.getD i (0, 0))]) ∧ RdrAt w' pb g (i + 1) ts en ∧ Bt pb w.heap.size w w' := by
  obtain ⟨a, c, hB, ha, hc1, hc2⟩ := hR
  have hl := hB.lt
  have hlt := isI_lt hk
  obtain ⟨c0, c1, c2⟩ := hT.cell i hlt
  rw [isI_kind hk] at c0
  rw [← hereI_lt (en := en) hlt] at c1
  obtain ⟨p, hp⟩ : ∃ p, p = hereI ts en i := ⟨_, rfl⟩
  obtain ⟨ta, tn, tc, htx⟩ : ∃ ta tn tc, txv (ts.getD i Tok.zero) (gs.getD i (0, 0)) = .slice ta tn tc := by
    obtain ⟨a, c, h⟩ := txv_form (ts.getD i Tok.zero) (gs.getD i (0, 0)); exact ⟨_, _, _, h⟩
  rw [htx] at c2 ⊢
  rw [← hp] at c1 ⊢
  have hgl : g < w.heap.size := by rcases hT.glt with h | h <;> omega
  have hgp : g ≠ pb := by rcases hT.glt with h | h <;> omega
  rcases ha with ha | rfl
  · omega
  · obtain ⟨m, hm⟩ : ∃ m, ts.length - i = m + 1 := ⟨ts.length - i - 1, by omega⟩
    rw [hm] at hB hc1
    obtain ⟨o, ho⟩ : ∃ o, o = i * 3 := ⟨_, rfl⟩
    rw [← ho] at c0 c1 c2 hB
    obtain ⟨b0, b1⟩ := hB.cells
    have bf := hB.frz 0
    have HB : Hid (BoxR w pb (.slice (some ⟨g, o, none⟩) (m + 1) c) en) := hB
    have HO : Hid (o = i * 3) := ho
    have HM : Hid (ts.length - i = m + 1) := hm
    have HLt : Hid (i < ts.length) := hlt
    clear ho hm hT hB hlt hk hp htx
    by_cases hc : c = 1
    · subst hc
      have HM0 : Hid (m = 0) := by unfold Hid; omega
      go_enter Try.func105, Try.ntmps105
      go_wp2
      refine bodyPost_ret (v := .agg #[.int .i64 k, .int .i64 p, .slice ta tn tc]) (by simp [results, Try.results105, go_sem]) rfl ?_
      exact ⟨rfl, RdrAt.step HB.out _ _ _ _ _ (by have := HM0.out; have := HM.out; omega) (.inl (by have := HM0.out; have := HM.out; omega)) (by have := HM0.out; omega) (by omega), bt_step _ _ _ _ _⟩
    · have HO3 : Hid (o + 3 = (i + 1) * 3) := by have := HO.out; unfold Hid; omega
      have HM1 : Hid (m = ts.length - (i + 1)) := by have := HM.out; unfold Hid; omega
      go_enter Try.func105, Try.ntmps105
      go_wp2
      refine bodyPost_ret (v := .agg #[.int .i64 k, .int .i64 p, .slice ta tn tc]) (by simp [results, Try.results105, go_sem]) rfl ?_
      exact ⟨rfl, RdrAt.step HB.out _ _ _ _ _ HM1.out (.inr (by rw [HO3.out])) (by omega) (by omega), bt_step _ _ _ _ _⟩

/-- The words of the kinds, one behind the other, as the program looks them up. -/
theorem kindW_no (l : List UInt8) (h : ∀ k : Nat, k ≤ 7 → ((wordB k).toList == l) = false) : kindW l = 2 := by
  have h0 := h 0 (by omega)
  have h1 := h 1 (by omega)
  have h3 := h 3 (by omega)
  have h4 := h 4 (by omega)
  have h5 := h 5 (by omega)
  have h6 := h 6 (by omega)
  have h7 := h 7 (by omega)
  simp [wordB, ByteArray.toList_eq] at h0 h1 h3 h4 h5 h6 h7
  unfold kindW
  rw [if_neg (fun e => h0 e.symm), if_neg (fun e => h1 e.symm), if_neg (fun e => h3 e.symm), if_neg (fun e => h4 e.symm), if_neg (fun e => h5 e.symm), if_neg (fun e => h6 e.symm), if_neg (fun e => h7 e.symm)]

theorem kindW_at (l : List UInt8) (k : Nat) (hk : k ≤ 7) (h : ((wordB k).toList == l) = true) : kindW l = k := by
  have hl : l = (wordB k).toList := (eq_of_beq h).symm
  subst hl
  rw [ByteArray.toList_eq]
  match k, hk with
  | 0, _ | 1, _ | 2, _ | 3, _ | 4, _ | 5, _ | 6, _ | 7, _ => rfl

set_option maxRecDepth 100000 in
set_option maxHeartbeats 1000000 in
theorem conKind_any (a : Option Addr) (n cap : Nat) (zs : List Int) (w : World) {lo hi : Nat} (h : Rd lo hi w a n cap zs) :
    Calls Try.prog 106 #[.slice a n cap] w fun e w' => e = .returned (.int .i64 (kindW (strOfNums zs).toList)) ∧ ∃ nd, w' = w.drewN nd := by
  have H : Hid (Rd lo hi w a n cap zs) := h
  clear h
  obtain ⟨s, HS⟩ : ∃ s, Hid (s = strOfNums zs) := ⟨_, rfl⟩
  rw [← HS.out]
  go_enter Try.func106, Try.ntmps106
  go_wp2_with fail
  go_loopw [3] (fun i wr => ∃ k nd : Nat, k ≤ 8 ∧ i = .int .i64 k ∧ wr = w.drewN nd ∧ ∀ j : Nat, j < k → ((wordB j).toList == s.toList) = false) (fun i _ => 8 - (intOf i).toNat)
  case atStart => exact ⟨0, 0, Nat.zero_le _, rfl, rfl, fun j hj => by omega⟩
  case round =>
    obtain ⟨k, nd, hk, rfl, hwr, hno⟩ := hrel
    have HNo : Hid (∀ j : Nat, j < k → ((wordB j).toList == s.toList) = false) := hno
    have HWr : Hid (wr = w.drewN nd) := hwr
    clear hno hwr
    by_cases hlt : k ≤ 7
    · have hki : (k : Int) ≤ 7 := by omega
      have hcv : ∀ m, (convert 22 9 (.slice a n cap)).run Try.prog (wr.drewN m) = .ok (.string s) (wr.drewN m) := by
        intro m; rw [HS.out, HWr.out]; exact conv_any (H.out.same (fun _ _ _ => rfl))
      have hcv1 : (convert 22 9 (.slice a n cap)).run Try.prog wr.drew = .ok (.string s) wr.drew := hcv 1
      clear hcv
      obtain ⟨t, HT⟩ : ∃ t, Hid (t = wordB k) := ⟨_, rfl⟩
      cases hb : (t.toList == s.toList)
      · have HF : Hid (∀ j : Nat, j < k + 1 → ((wordB j).toList == s.toList) = false) := by
          intro j hj
          by_cases e : j = k
          · subst e; rw [← HT.out]; exact hb
          · exact HNo.out j (by omega)
        go_wp2_with fail
        go_region_with (go_at_call 91; refine (conWord_any _ _).mono ?_; rintro e w' ⟨rfl, hw⟩; rw [hw, ← HT.out]; clear hw)
        all_goals
          go_wp2
          go_roundw
          case rel => exact ⟨k + 1, nd + 1, by omega, by go_num, by rw [HWr.out]; rfl, HF.out⟩
          case measure => simp [intOf]; omega
      · have HF : Hid (kindW s.toList = k) := kindW_at _ k hlt (by rw [← HT.out]; exact hb)
        go_wp2_with fail
        go_region_with (go_at_call 91; refine (conWord_any _ _).mono ?_; rintro e w' ⟨rfl, hw⟩; rw [hw, ← HT.out]; clear hw)
        all_goals
          go_wp2
          go_ret
          exact ⟨ri HF.out.symm, nd + 1, by rw [HWr.out]; rfl⟩
    · have HF : Hid (kindW s.toList = 2) := kindW_no _ (fun j hj => HNo.out j (by omega))
      go_wp2
      go_ret
      exact ⟨ri HF.out.symm, nd, HWr.out⟩

end Go.Proofs.Ythojlfcahhjfaaa
