/- The model's parser: its box; what is wrong is laid down; one token taken; which kind a word names: a contract each. -/
import Derived.Test.YtckhjoancfbkfaaGreatNG18
import Derived.Test.YtckhjoancfbkfaaGreatNG6
import Derived.Deep.QuietTactic
import Derived.BigQuiet
namespace Go.Proofs.YtckhjoancfbkfaaGreat
open Go.RowKit

/-- The parser's box. -/
def BoxQ (W : World) (b : Nat) (lv : Value) (i en bad : Int) : Prop := W.heap[b]? = some (.cells #[lv, .int .i64 i, .int .i64 en, .int .i64 bad] 96 (0, 0))

theorem BoxQ.cells {W : World} {b : Nat} {lv : Value} {i en bad : Int} (h : BoxQ W b lv i en bad) : W.cell? ⟨b, 0, none⟩ = some lv ∧ W.cell? ⟨b, 1, none⟩ = some (.int .i64 i) ∧ W.cell? ⟨b, 2, none⟩ = some (.int .i64 en) ∧ W.cell? ⟨b, 3, none⟩ = some (.int .i64 bad) := by
  unfold BoxQ at h
  refine ⟨?_, ?_, ?_, ?_⟩ <;> simp [World.cell?, h]
theorem BoxQ.frz {W : World} {b : Nat} {lv : Value} {i en bad : Int} (h : BoxQ W b lv i en bad) (o : Nat) : W.frozen? ⟨b, o, none⟩ = false := by
  unfold BoxQ at h
  simp [World.frozen?, h]
theorem BoxQ.lt {W : World} {b : Nat} {lv : Value} {i en bad : Int} (h : BoxQ W b lv i en bad) : b < W.heap.size := (Array.getElem?_eq_some_iff.1 h).1
theorem BoxQ.of {W W' : World} {b : Nat} {lv : Value} {i en bad : Int} (h : BoxQ W b lv i en bad) (e : W'.heap[b]? = W.heap[b]?) : BoxQ W' b lv i en bad := e.trans h
theorem BoxQ.set1 {W : World} {b : Nat} {lv : Value} {i en bad : Int} (h : BoxQ W b lv i en bad) (j : Int) : BoxQ (W.setCell ⟨b, 1, none⟩ (.int .i64 j)) b lv j en bad := by
  unfold BoxQ
  rw [heap_setCell_same W b 1 _ _ _ h]
  rfl
theorem BoxQ.set3 {W : World} {b : Nat} {lv : Value} {i en bad : Int} (h : BoxQ W b lv i en bad) (j : Int) : BoxQ (W.setCell ⟨b, 3, none⟩ (.int .i64 j)) b lv i en j := by
  unfold BoxQ
  rw [heap_setCell_same W b 3 _ _ _ h]
  rfl
theorem BoxQ.new (W : World) (lv : Value) (i en bad : Int) : BoxQ (W.alloc (.cells #[lv, .int .i64 i, .int .i64 en, .int .i64 bad] 96)) W.heap.size lv i en bad := by
  show (W.heap.push _)[W.heap.size]? = _
  simp

/-- The parser stands at the token i; nothing is wrong yet where bad is -1. -/
def PsAt (W : World) (pb g i : Nat) (ts : List Tok) (en bad : Int) : Prop := ∃ a c, BoxQ W pb (.slice a ts.length c) i en bad ∧ (ts.length = 0 ∨ a = some ⟨g, 0, none⟩) ∧ ts.length ≤ c ∧ c ≤ 9223372036854775807

/-- What is wrong is laid down. -/
def PsBad (W : World) (pb : Nat) (p : Int) : Prop := ∃ lv i en, BoxQ W pb lv i en p

theorem PsAt.of {W W' : World} {pb g i : Nat} {ts : List Tok} {en bad : Int} (h : PsAt W pb g i ts en bad) (e : W'.heap[pb]? = W.heap[pb]?) : PsAt W' pb g i ts en bad := by
  obtain ⟨a, c, h1, h2⟩ := h
  exact ⟨a, c, h1.of e, h2⟩
theorem PsAt.lt {W : World} {pb g i : Nat} {ts : List Tok} {en bad : Int} (h : PsAt W pb g i ts en bad) : pb < W.heap.size := by
  obtain ⟨a, c, h1, h2⟩ := h
  exact h1.lt
theorem PsAt.below {W W' : World} {pb g i : Nat} {ts : List Tok} {en bad : Int} (h : PsAt W pb g i ts en bad) (hb : Below W.heap.size W W') : PsAt W' pb g i ts en bad := h.of (hb.block _ h.lt)
theorem PsAt.fell {W : World} {pb g i : Nat} {ts : List Tok} {en bad : Int} (h : PsAt W pb g i ts en bad) : PsBad W pb bad := by
  obtain ⟨a, c, h1, h2⟩ := h
  exact ⟨_, _, _, h1⟩
theorem PsBad.of {W W' : World} {pb : Nat} {p : Int} (h : PsBad W pb p) (e : W'.heap[pb]? = W.heap[pb]?) : PsBad W' pb p := by
  obtain ⟨lv, i, en, h⟩ := h
  exact ⟨lv, i, en, h.of e⟩
theorem PsBad.lt {W : World} {pb : Nat} {p : Int} (h : PsBad W pb p) : pb < W.heap.size := by
  obtain ⟨lv, i, en, h⟩ := h
  exact h.lt
theorem PsBad.below {W W' : World} {pb : Nat} {p : Int} (h : PsBad W pb p) (hb : Below W.heap.size W W') : PsBad W' pb p := h.of (hb.block _ h.lt)

theorem hereS_lt {ts : List Tok} {en : Int} {i : Nat} (h : i < ts.length) : hereI ts en i = (ts.getD i Tok.zero).place := if_pos h
theorem hereS_end {ts : List Tok} {en : Int} {i : Nat} (h : ts.length ≤ i) : hereI ts en i = en := if_neg (by omega)

theorem bt_drewN {pb B : Nat} {w w' : World} (h : Bt pb B w w') (n : Nat) : Bt pb B w (w'.drewN n) := ⟨h.os, h.tape, h.output, h.size, h.block⟩

set_option maxHeartbeats 800000 in
theorem fail_stuck (pb : Nat) (p : Int) (w : World) (hp : 0 ≤ p) (h : PsBad w pb p) :
    Calls Tryz.prog 99 #[.pointer (some ⟨pb, 0, none⟩)] w fun e w' => e = .returned (.tuple #[]) ∧ w' = w := by
  obtain ⟨lv, i, en, h⟩ := h
  obtain ⟨b0, b1, b2, b3⟩ := h.cells
  clear h
  go_enter Tryz.func99, Tryz.ntmps99
  go_wp2
  refine bodyPost_ret (results_none rfl _ _ _) rfl ?_
  exact ⟨rfl, rfl⟩

set_option maxRecDepth 100000 in
set_option maxHeartbeats 800000 in
theorem fail_any (base pb g i : Nat) (ts : List Tok) (gs : List (Nat × Nat)) (en : Int) (w : World) (hP : PsAt w pb g i ts en (-1)) (hT : TkM base pb w g ts gs) (hi : i ≤ ts.length) :
    Calls Tryz.prog 99 #[.pointer (some ⟨pb, 0, none⟩)] w fun e w' => e = .returned (.tuple #[]) ∧ PsBad w' pb (hereI ts en i) ∧ Bt pb w.heap.size w w' := by
  obtain ⟨a, c, hB, ha, hc1, hc2⟩ := hP
  have HB : Hid (BoxQ w pb (.slice a ts.length c) i en (-1)) := hB
  obtain ⟨b0, b1, b2, b3⟩ := hB.cells
  have bf := hB.frz 3
  obtain ⟨d0, d1, d2, d3⟩ := (hB.set3 en).cells
  have df := (hB.set3 en).frz 3
  have HD : Hid (BoxQ (w.setCell ⟨pb, 3, none⟩ (.int .i64 en)) pb (.slice a ts.length c) i en en) := hB.set3 en
  obtain ⟨n, hn⟩ : ∃ n, n = ts.length := ⟨_, rfl⟩
  by_cases hlt : i < ts.length
  · rcases ha with ha | rfl
    · omega
    · obtain ⟨c0, c1, c2⟩ := hT.cell i hlt
      have hgp : g ≠ pb := by rcases hT.glt with h | h <;> omega
      have HE : Hid (hereI ts en i = (ts.getD i Tok.zero).place) := hereS_lt hlt
      obtain ⟨pl, hpl⟩ : ∃ pl, pl = (ts.getD i Tok.zero).place := ⟨_, rfl⟩
      rw [← hpl] at c1 HE
      rw [← hn] at b0 d0 hc1 hlt
      have hli : (i : Int) < (n : Int) := by omega
      obtain ⟨W1, hW1⟩ : ∃ W, W = w.setCell ⟨pb, 3, none⟩ (.int .i64 en) := ⟨_, rfl⟩
      have HW1 : Hid (W1 = w.setCell ⟨pb, 3, none⟩ (.int .i64 en)) := hW1
      have e1 : W1.cell? ⟨g, i * 3 + 1, none⟩ = some (.int .i64 pl) := by rw [hW1, World.cell?_of_block (w := w) (Below.heap_setCell w ⟨pb, 3, none⟩ _ g hgp)]; exact c1
      rw [← hW1] at d0 d1 d2 d3 df HD
      have HBt : Hid (Bt pb w.heap.size w W1) := by unfold Hid; rw [hW1]; exact (Bt.refl pb w.heap.size w).set (p := ⟨pb, 3, none⟩) (.inr rfl) _
      clear hB hpl c0 c1 c2 hT hi hW1
      go_enter Tryz.func99, Tryz.ntmps99
      go_wp2
      rw [← HW1.out]
      clear b0 b1 b2 b3 bf
      go_quiet (fail)
      go_wp2
      go_region
      all_goals
        go_wp2
        refine bodyPost_end (results_none rfl _ _ _) rfl ?_
        refine ⟨rfl, ?_, Bt.set (p := ⟨pb, 3, none⟩) (bt_drewN HBt.out _) (.inr rfl) _⟩
        rw [HE.out]
        exact ⟨_, _, _, BoxQ.set3 (BoxQ.of HD.out rfl) pl⟩
  · obtain ⟨W1, hW1⟩ : ∃ W, W = w.setCell ⟨pb, 3, none⟩ (.int .i64 en) := ⟨_, rfl⟩
    have HW1 : Hid (W1 = w.setCell ⟨pb, 3, none⟩ (.int .i64 en)) := hW1
    have HE : Hid (hereI ts en i = en) := hereS_end (by omega)
    rw [← hW1] at d0 d1 d2 d3 df HD
    have HBt : Hid (Bt pb w.heap.size w W1) := by unfold Hid; rw [hW1]; exact (Bt.refl pb w.heap.size w).set (p := ⟨pb, 3, none⟩) (.inr rfl) _
    rw [← hn] at b0 d0 hc1 hlt
    have hli : ¬ (i : Int) < (n : Int) := by omega
    clear hB hT hi hW1 ha
    go_enter Tryz.func99, Tryz.ntmps99
    go_wp2
    rw [← HW1.out]
    clear b0 b1 b2 b3 bf
    go_quiet (fail)
    go_wp2
    refine bodyPost_end (results_none rfl _ _ _) rfl ?_
    refine ⟨rfl, ?_, bt_drewN HBt.out _⟩
    rw [HE.out]
    exact ⟨_, _, _, BoxQ.of HD.out rfl⟩

set_option maxRecDepth 100000 in
set_option maxHeartbeats 800000 in
theorem takeS_stuck (pb : Nat) (p k : Int) (w : World) (hp : 0 ≤ p) (h : PsBad w pb p) :
    Calls Tryz.prog 109 #[.pointer (some ⟨pb, 0, none⟩), .int .i64 k] w fun e w' => e = .returned (.slice none 0 0) ∧ ∃ nd, w' = w.drewN nd := by
  have H : Hid (PsBad w pb p) := h
  obtain ⟨lv, i, en, h⟩ := h
  obtain ⟨b0, b1, b2, b3⟩ := h.cells
  clear h
  go_enter Tryz.func109, Tryz.ntmps109
  go_wp2
  go_quiet (fail)
  go_wp2_with fail
  refine (fail_stuck pb p (w.drewN nq) hp (H.out.of rfl)).mono ?_
  rintro e w' ⟨rfl, hw⟩
  rw [hw]; clear hw
  go_wp2
  go_ret
  exact ⟨rfl, _, rfl⟩

set_option maxRecDepth 100000 in
set_option maxHeartbeats 800000 in
theorem takeS_bad (base pb g i : Nat) (ts : List Tok) (gs : List (Nat × Nat)) (en k : Int) (w : World) (hP : PsAt w pb g i ts en (-1)) (hT : TkM base pb w g ts gs) (hi : i ≤ ts.length) (hk : isI ts k i = false) :
    Calls Tryz.prog 109 #[.pointer (some ⟨pb, 0, none⟩), .int .i64 k] w fun e w' => e = .returned (.slice none 0 0) ∧ PsBad w' pb (hereI ts en i) ∧ Bt pb w.heap.size w w' := by
  have HP : Hid (PsAt w pb g i ts en (-1)) := hP
  have HT : Hid (TkM base pb w g ts gs) := hT
  obtain ⟨a, c, hB, ha, hc1, hc2⟩ := hP
  obtain ⟨b0, b1, b2, b3⟩ := hB.cells
  obtain ⟨n, hn⟩ : ∃ n, n = ts.length := ⟨_, rfl⟩
  by_cases hlt : i < ts.length
  · rcases ha with ha | rfl
    · omega
    · obtain ⟨c0, c1, c2⟩ := hT.cell i hlt
      have hne : ((ts.getD i Tok.zero).kind != k) = true := by
        simp only [isI, hlt, decide_true, Bool.true_and, decide_eq_false_iff_not] at hk
        simpa using hk
      obtain ⟨kd, hkd⟩ : ∃ kd, kd = (ts.getD i Tok.zero).kind := ⟨_, rfl⟩
      rw [← hkd] at c0 hne
      rw [← hn] at b0 hc1 hlt
      have hli : (i : Int) < (n : Int) := by omega
      have hge : ¬ (n : Int) ≤ (i : Int) := by omega
      clear hB hkd c1 c2 hT hk hn
      go_enter Tryz.func109, Tryz.ntmps109
      go_wp2
      go_quiet (fail)
      go_wp2_with fail
      refine (fail_any base pb g i ts gs en (w.drewN nq) (HP.out.of rfl) (HT.out.keep (fun _ _ _ => rfl)) hi).mono ?_
      rintro e w' ⟨rfl, hB, hb⟩
      have HF : Hid (PsBad w' pb (hereI ts en i) ∧ Bt pb w.heap.size w w') := ⟨hB, (bt_drewN (Bt.refl _ _ _) _).trans hb⟩
      clear hB hb
      go_wp2
      go_ret
      exact ⟨rfl, HF.out⟩
  · rw [← hn] at b0 hc1 hlt
    have hge : (n : Int) ≤ (i : Int) := by omega
    clear hB hT hk ha hn
    go_enter Tryz.func109, Tryz.ntmps109
    go_wp2
    go_quiet (fail)
    go_wp2_with fail
    refine (fail_any base pb g i ts gs en (w.drewN nq) (HP.out.of rfl) (HT.out.keep (fun _ _ _ => rfl)) hi).mono ?_
    rintro e w' ⟨rfl, hB, hb⟩
    have HF : Hid (PsBad w' pb (hereI ts en i) ∧ Bt pb w.heap.size w w') := ⟨hB, (bt_drewN (Bt.refl _ _ _) _).trans hb⟩
    clear hB hb
    go_wp2
    go_ret
    exact ⟨rfl, HF.out⟩

set_option maxRecDepth 100000 in
set_option maxHeartbeats 800000 in
theorem takeS_ok (base pb g i : Nat) (ts : List Tok) (gs : List (Nat × Nat)) (en k : Int) (w : World) (hP : PsAt w pb g i ts en (-1)) (hT : TkM base pb w g ts gs) (hn1 : ts.length ≤ 1500) (hk : isI ts k i = true) :
    Calls Tryz.prog 109 #[.pointer (some ⟨pb, 0, none⟩), .int .i64 k] w fun e w' => e = .returned (txv (ts.getD i Tok.zero) (gs.getD i (0, 0))) ∧ PsAt w' pb g (i + 1) ts en (-1) ∧ Bt pb w.heap.size w w' := by
  obtain ⟨a, c, hB, ha, hc1, hc2⟩ := hP
  have hlt := isI_lt hk
  obtain ⟨c0, c1, c2⟩ := hT.cell i hlt
  rw [isI_kind hk] at c0
  obtain ⟨ta, tn, tc, htx⟩ : ∃ ta tn tc, txv (ts.getD i Tok.zero) (gs.getD i (0, 0)) = .slice ta tn tc := by
    obtain ⟨a, c, h⟩ := txv_form (ts.getD i Tok.zero) (gs.getD i (0, 0)); exact ⟨_, _, _, h⟩
  rw [htx] at c2 ⊢
  have hgp : g ≠ pb := by rcases hT.glt with h | h <;> omega
  rcases ha with ha | rfl
  · omega
  · have HB : Hid (BoxQ w pb (.slice (some ⟨g, 0, none⟩) ts.length c) i en (-1)) := hB
    obtain ⟨b0, b1, b2, b3⟩ := hB.cells
    have bf := hB.frz 1
    have hkk : (k != k) = false := by simp
    obtain ⟨n, hn⟩ : ∃ n, n = ts.length := ⟨_, rfl⟩
    have HN : Hid (n = ts.length) := hn
    rw [← hn] at b0 hc1 hlt hn1
    have hli : (i : Int) < (n : Int) := by omega
    have hge : ¬ (n : Int) ≤ (i : Int) := by omega
    have hwr : IntKind.i64.wrap ((i : Int) + 1) = (i : Int) + 1 := wrap64_id (by omega)
    have hwr2 : IntKind.i64.wrap ((i : Int) + 1 - 1) = (i : Int) := by rw [show (i : Int) + 1 - 1 = i by omega]; exact wrap64_id (by omega)
    clear hB hT hk hn htx c1
    go_enter Tryz.func109, Tryz.ntmps109
    go_wp2
    go_quiet (fail)
    go_wp2_with fail
    obtain ⟨W2, HW2⟩ : ∃ W, Hid (W = (w.drewN nq).setCell ⟨pb, 1, none⟩ (.int .i64 ((i : Int) + 1))) := ⟨_, rfl⟩
    rw [← HW2.out]
    have HB2 : Hid (BoxQ W2 pb (.slice (some ⟨g, 0, none⟩) ts.length c) ((i : Int) + 1) en (-1)) := by unfold Hid; rw [HW2.out]; exact BoxQ.set1 (BoxQ.of HB.out rfl) _
    have HBt : Hid (Bt pb w.heap.size w W2) := by unfold Hid; rw [HW2.out]; exact Bt.set (p := ⟨pb, 1, none⟩) (bt_drewN (Bt.refl _ _ _) _) (.inr rfl) _
    have e2 : W2.cell? ⟨g, i * 3 + 2, none⟩ = some (.slice ta tn tc) := by
      rw [HW2.out, World.cell?_of_block (w := w) (Below.heap_setCell (w.drewN nq) ⟨pb, 1, none⟩ _ g hgp)]; exact c2
    clear b0 b1 b2 b3 bf c0 c2 hgp
    obtain ⟨b0, b1, b2, b3⟩ := HB2.out.cells
    rw [← HN.out] at b0
    go_quiet (fail)
    go_wp2
    go_ret
    refine ⟨rfl, ⟨_, c, ?_, .inr rfl, by rw [← HN.out]; exact hc1, hc2⟩, bt_drewN HBt.out _⟩
    have h := HB2.out
    rw [show (i : Int) + 1 = ((i + 1 : Nat) : Int) by omega] at h
    exact BoxQ.of h rfl

/-- The words of the kinds. -/
theorem kindS_no (l : List UInt8) (h : ∀ k : Nat, k ≤ 7 → ((wordB k).toList == l) = false) : kindW l = 2 := by
  have h0 := h 0 (by omega)
  have h1 := h 1 (by omega)
  have h3 := h 3 (by omega)
  have h4 := h 4 (by omega)
  have h5 := h 5 (by omega)
  have h6 := h 6 (by omega)
  have h7 := h 7 (by omega)
  simp [wordB, ByteArray.toList_eq] at h0 h1 h3 h4 h5 h6 h7
  unfold kindW
  rw [if_neg (fun e => h0 e.symm), if_neg (fun e => h1 e.symm), if_neg (fun e => h3 e.symm), if_neg (fun e => h4 e.symm), if_neg (fun e => h5 e.symm), if_neg (fun e => h6 e.symm), if_neg (fun e => h7 e.symm)]

theorem kindS_at (l : List UInt8) (k : Nat) (hk : k ≤ 7) (h : ((wordB k).toList == l) = true) : kindW l = k := by
  have hl : l = (wordB k).toList := (eq_of_beq h).symm
  subst hl
  rw [ByteArray.toList_eq]
  match k, hk with
  | 0, _ | 1, _ | 2, _ | 3, _ | 4, _ | 5, _ | 6, _ | 7, _ => rfl

set_option maxRecDepth 100000 in
set_option maxHeartbeats 1000000 in
theorem l2kind_any (a : Option Addr) (n cap : Nat) (zs : List Int) (w : World) {lo hi : Nat} (h : Rd lo hi w a n cap zs) (hhi : hi ≤ w.heap.size) (hn : 1 ≤ n) :
    Calls Tryz.prog 145 #[.slice a n cap] w fun e w' => e = .returned (.int .i64 (kindW (strOfNums zs).toList)) ∧ Below w.heap.size w w' := by
  have H : Hid (Rd lo hi w a n cap zs) := h
  clear h
  obtain ⟨s, HS⟩ : ∃ s, Hid (s = strOfNums zs) := ⟨_, rfl⟩
  rw [← HS.out]
  have hni : 0 < n := hn
  clear hn
  go_enter Tryz.func145, Tryz.ntmps145
  go_wp2_with fail
  refine (l2words_any w).mono ?_
  rintro e w1 ⟨rfl, hcs, hb1⟩
  have HB1 : Hid (Below w.heap.size w w1) := hb1
  have HC : Hid (∀ i : Nat, i < 8 → w1.cell? ⟨w.heap.size, i, none⟩ = some (.string (wordB i))) := hcs
  clear hcs hb1
  go_wp2_with fail
  go_loopw [4] (fun i wr => ∃ k nd : Nat, k ≤ 8 ∧ i = .int .i64 k ∧ wr = w1.drewN nd ∧ ∀ j : Nat, j < k → ((wordB j).toList == s.toList) = false) (fun i _ => 8 - (intOf i).toNat)
  case atStart => exact ⟨0, 0, Nat.zero_le _, rfl, rfl, fun j hj => by omega⟩
  case round =>
    obtain ⟨k, nd, hk, rfl, hwr, hno⟩ := hrel
    have HNo : Hid (∀ j : Nat, j < k → ((wordB j).toList == s.toList) = false) := hno
    have HWr : Hid (wr = w1.drewN nd) := hwr
    clear hno hwr
    by_cases hlt : k ≤ 7
    · have hki : (k : Int) < 8 := by omega
      have hcv : ∀ m, (convert 22 9 (.slice a n cap)).run Tryz.prog (wr.drewN m) = .ok (.string s) (wr.drewN m) := by
        intro m; rw [HS.out, HWr.out]; exact conv_any (Rd.same (H.out.below HB1.out hhi) (fun _ _ _ => rfl))
      obtain ⟨t, HT⟩ : ∃ t, Hid (t = wordB k) := ⟨_, rfl⟩
      have hcell : wr.cell? ⟨w.heap.size, k, none⟩ = some (.string t) := by rw [HWr.out, HT.out]; exact HC.out k (by omega)
      cases hb : (t.toList == s.toList)
      · have HF : Hid (∀ j : Nat, j < k + 1 → ((wordB j).toList == s.toList) = false) := by
          intro j hj
          by_cases e : j = k
          · subst e; rw [← HT.out]; exact hb
          · exact HNo.out j (by omega)
        go_wp2_with fail
        go_quiet (fail)
        go_wp2
        go_roundw
        case rel => exact ⟨k + 1, nd + nq, by omega, by go_num, by rw [HWr.out, drew_add], HF.out⟩
        case measure => simp [intOf]; omega
      · have HF : Hid (kindW s.toList = k) := kindS_at _ k hlt (by rw [← HT.out]; exact hb)
        go_wp2_with fail
        go_quiet (fail)
        go_wp2
        go_ret
        exact ⟨ri HF.out.symm, by rw [HWr.out]; exact below_drewN (below_drewN HB1.out nd) _⟩
    · have HF : Hid (kindW s.toList = 2) := kindS_no _ (fun j hj => HNo.out j (by omega))
      have hki : ¬ (k : Int) < 8 := by omega
      go_wp2
      go_ret
      exact ⟨ri HF.out.symm, by rw [HWr.out]; exact below_drewN HB1.out nd⟩

end Go.Proofs.YtckhjoancfbkfaaGreat
