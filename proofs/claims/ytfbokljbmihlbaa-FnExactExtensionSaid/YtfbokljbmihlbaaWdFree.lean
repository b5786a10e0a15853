/- The laws' own copy of a world, anew: what it made may be written. -/
import Derived.Test.YtfbokljbmihlbaaWdLaw3
import Derived.Test.YtfbokljbmihlbaaConTo
namespace Go.Proofs.Ytfbokljbmihlbaa
open Go.RowKit

set_option maxHeartbeats 800000 in
theorem toBoolS_fr (a : Option Addr) (n cap : Nat) (xs : List Bool) (w : World) {lo hi : Nat} (h : RB lo hi w a n cap xs) (hhi : hi ≤ w.heap.size) (hn : n ≤ 1048576) :
    Calls Try.prog 58 #[.slice a n cap] w fun e w' => e = .returned (.slice (some ⟨w.heap.size, 0, none⟩) n n) ∧ RB w.heap.size (w.heap.size + 1) w' (some ⟨w.heap.size, 0, none⟩) n n xs ∧ Below w.heap.size w w' ∧ w'.heap.size = w.heap.size + 1 ∧ Free w.heap.size w'.heap.size w' := by
  obtain ⟨hl, ⟨hm, _⟩, hc⟩ := h
  have hmk := fun w : World => run_make_row' (P := Try.prog) 69 4 (.bool false) 1 Try.underlying69 Try.info4w rfl .i64 .i64 n (by omega) (by omega) w
  have HL : Hid (xs.length = n) := hl
  have HCell : Hid (∀ k, k < n → ∃ b off, a = some ⟨b, off, none⟩ ∧ b < w.heap.size ∧ w.cell? ⟨b, off + k, none⟩ = some (.bool (xs.getD k false))) := by
    intro k hk
    rcases hc with h0 | ⟨b, off, e, _, hb, hcs⟩
    · omega
    · obtain ⟨v, hv, rfl⟩ := hcs k hk
      exact ⟨b, off, e, by omega, hv⟩
  have h0 : Hid ((w.alloc (.cells (madeCells #[(.bool false)] n) 4)).rowIs w.heap.size 4 n (partV (.bool false) (fun i => (.bool (xs.getD i false))) 0)) := (World.rowIs_made w (.bool false) n 4).congr (fun i _ => by simp [partV])
  clear hc hl
  go_enter Try.func58, Try.ntmps58
  go_wp2
  go_loopw [4] (fun i wr => ∃ k : Nat, k ≤ n ∧ i = .int .i64 k ∧ wr.rowIs w.heap.size 4 n (partV (.bool false) (fun i => (.bool (xs.getD i false))) k) ∧ Below w.heap.size w wr ∧ wr.heap.size = w.heap.size + 1) (fun i _ => n - (intOf i).toNat)
  case atStart => exact ⟨0, Nat.zero_le _, rfl, h0.out, (Below.refl _ _).alloc (Nat.le_refl _) _, by simp⟩
  case round =>
    obtain ⟨k, hk, rfl, hrow, hbel, hsz⟩ := hrel
    by_cases hlt : k < n
    · obtain ⟨b, off, ha, hb, hcell⟩ := HCell.out k hlt
      subst ha
      obtain ⟨c, hcc⟩ : ∃ c, c = xs.getD k false := ⟨_, rfl⟩
      have HC : Hid (c = xs.getD k false) := hcc
      rw [← hcc] at hcell
      have hck : wr.cell? ⟨b, off + k, none⟩ = some (.bool (c)) := by rw [hbel.cell (p := ⟨b, off + k, none⟩) hb]; exact hcell
      have hfz := hrow.frozen k
      have hold : wr.cell? ⟨w.heap.size, k, none⟩ = some (.bool false) := by have := hrow.cell hlt; simpa [partV] using this
      have HR : Hid ((wr.setCell ⟨w.heap.size, k, none⟩ (.bool (c))).rowIs w.heap.size 4 n (partV (.bool false) (fun i => (.bool (xs.getD i false))) (k + 1))) := by
        refine (partV_step _ hrow).congr fun i _ => ?_
        unfold partV
        by_cases e : i = k
        · subst e; rw [HC.out]; simp
        · simp [e]
      have HB : Hid (Below w.heap.size w (wr.setCell ⟨w.heap.size, k, none⟩ (.bool (c)))) := hbel.setCell (Nat.le_refl _) _
      have hki : (k : Int) < (n : Int) := by omega
      clear hrow hbel hcc hcell
      go_wp2
      go_roundw
      case rel => exact ⟨k + 1, by omega, by go_num, HR.out, HB.out, by simpa using hsz⟩
      case measure => simp [intOf]; omega
    · have hkn : k = n := by omega
      have HRd : Hid (RB w.heap.size (w.heap.size + 1) wr (some ⟨w.heap.size, 0, none⟩) n n xs) := by
        refine ⟨HL.out, ⟨Nat.le_refl _, by omega⟩, .inr ⟨w.heap.size, 0, rfl, Nat.le_refl _, Nat.lt_succ_self _, fun i hi => ⟨_, ?_, rfl⟩⟩⟩
        have := hrow.cell hi
        rw [Nat.zero_add, this]
        simp [partV, hkn, hi]
      have HB : Hid (Below w.heap.size w wr) := hbel
      have HFr : Hid (Free w.heap.size wr.heap.size wr) := fun b h1 h2 o => by
        have e : b = w.heap.size := by omega
        subst e
        exact hrow.frozen o
      clear hrow hbel hkn
      go_wp2
      go_ret
      exact ⟨rfl, HRd.out, HB.out, hsz, HFr.out⟩

set_option maxHeartbeats 800000 in
theorem toIntS_fr (a : Option Addr) (n cap : Nat) (xs : List Int) (w : World) {lo hi : Nat} (h : RI lo hi w a n cap xs) (hhi : hi ≤ w.heap.size) (hn : n ≤ 1048576) :
    Calls Try.prog 33 #[.slice a n cap] w fun e w' => e = .returned (.slice (some ⟨w.heap.size, 0, none⟩) n n) ∧ RI w.heap.size (w.heap.size + 1) w' (some ⟨w.heap.size, 0, none⟩) n n xs ∧ Below w.heap.size w w' ∧ w'.heap.size = w.heap.size + 1 ∧ Free w.heap.size w'.heap.size w' := by
  obtain ⟨hl, ⟨hm, _⟩, hc⟩ := h
  have hmk := fun w : World => run_make_row' (P := Try.prog) 24 3 (.int .i64 0) 8 Try.underlying24 Try.info3w rfl .i64 .i64 n (by omega) (by omega) w
  have HL : Hid (xs.length = n) := hl
  have HCell : Hid (∀ k, k < n → ∃ b off, a = some ⟨b, off, none⟩ ∧ b < w.heap.size ∧ w.cell? ⟨b, off + k, none⟩ = some (.int .i64 (xs.getD k 0))) := by
    intro k hk
    rcases hc with h0 | ⟨b, off, e, _, hb, hcs⟩
    · omega
    · obtain ⟨v, hv, rfl⟩ := hcs k hk
      exact ⟨b, off, e, by omega, hv⟩
  have h0 : Hid ((w.alloc (.cells (madeCells #[(.int .i64 0)] n) 3)).rowIs w.heap.size 3 n (partV (.int .i64 0) (fun i => (.int .i64 (xs.getD i 0))) 0)) := (World.rowIs_made w (.int .i64 0) n 3).congr (fun i _ => by simp [partV])
  clear hc hl
  go_enter Try.func33, Try.ntmps33
  go_wp2
  go_loopw [4] (fun i wr => ∃ k : Nat, k ≤ n ∧ i = .int .i64 k ∧ wr.rowIs w.heap.size 3 n (partV (.int .i64 0) (fun i => (.int .i64 (xs.getD i 0))) k) ∧ Below w.heap.size w wr ∧ wr.heap.size = w.heap.size + 1) (fun i _ => n - (intOf i).toNat)
  case atStart => exact ⟨0, Nat.zero_le _, rfl, h0.out, (Below.refl _ _).alloc (Nat.le_refl _) _, by simp⟩
  case round =>
    obtain ⟨k, hk, rfl, hrow, hbel, hsz⟩ := hrel
    by_cases hlt : k < n
    · obtain ⟨b, off, ha, hb, hcell⟩ := HCell.out k hlt
      subst ha
      obtain ⟨c, hcc⟩ : ∃ c, c = xs.getD k 0 := ⟨_, rfl⟩
      have HC : Hid (c = xs.getD k 0) := hcc
      rw [← hcc] at hcell
      have hck : wr.cell? ⟨b, off + k, none⟩ = some (.int .i64 (c)) := by rw [hbel.cell (p := ⟨b, off + k, none⟩) hb]; exact hcell
      have hfz := hrow.frozen k
      have hold : wr.cell? ⟨w.heap.size, k, none⟩ = some (.int .i64 0) := by have := hrow.cell hlt; simpa [partV] using this
      have HR : Hid ((wr.setCell ⟨w.heap.size, k, none⟩ (.int .i64 (c))).rowIs w.heap.size 3 n (partV (.int .i64 0) (fun i => (.int .i64 (xs.getD i 0))) (k + 1))) := by
        refine (partV_step _ hrow).congr fun i _ => ?_
        unfold partV
        by_cases e : i = k
        · subst e; rw [HC.out]; simp
        · simp [e]
      have HB : Hid (Below w.heap.size w (wr.setCell ⟨w.heap.size, k, none⟩ (.int .i64 (c)))) := hbel.setCell (Nat.le_refl _) _
      have hki : (k : Int) < (n : Int) := by omega
      clear hrow hbel hcc hcell
      go_wp2
      go_roundw
      case rel => exact ⟨k + 1, by omega, by go_num, HR.out, HB.out, by simpa using hsz⟩
      case measure => simp [intOf]; omega
    · have hkn : k = n := by omega
      have HRd : Hid (RI w.heap.size (w.heap.size + 1) wr (some ⟨w.heap.size, 0, none⟩) n n xs) := by
        refine ⟨HL.out, ⟨Nat.le_refl _, by omega⟩, .inr ⟨w.heap.size, 0, rfl, Nat.le_refl _, Nat.lt_succ_self _, fun i hi => ⟨_, ?_, rfl⟩⟩⟩
        have := hrow.cell hi
        rw [Nat.zero_add, this]
        simp [partV, hkn, hi]
      have HB : Hid (Below w.heap.size w wr) := hbel
      have HFr : Hid (Free w.heap.size wr.heap.size wr) := fun b h1 h2 o => by
        have e : b = w.heap.size := by omega
        subst e
        exact hrow.frozen o
      clear hrow hbel hkn
      go_wp2
      go_ret
      exact ⟨rfl, HRd.out, HB.out, hsz, HFr.out⟩

set_option maxHeartbeats 1600000 in
theorem toByteSS_fr (a : Option Addr) (n cap : Nat) (xs : List (List Int)) (w : World) {lo hi : Nat} (h : RSS lo hi w a n cap xs) (hhi : hi ≤ w.heap.size) (hn : n ≤ 1048576) (hln : ∀ i, i < n → (xs.getD i []).length ≤ 1048576) :
    Calls Try.prog 31 #[.slice a n cap] w fun e w' => e = .returned (.slice (some ⟨w.heap.size, 0, none⟩) n n) ∧ RSS w.heap.size w'.heap.size w' (some ⟨w.heap.size, 0, none⟩) n n xs ∧ Below w.heap.size w w' ∧ Free w.heap.size w'.heap.size w' := by
  have HR0 : Hid (RSS lo hi w a n cap xs) := h
  obtain ⟨hl, ⟨hm, _⟩, _⟩ := h
  have hmk := fun w : World => run_make_row' (P := Try.prog) 22 27 (.slice none 0 0) 24 Try.underlying22 Try.infotoByteSS rfl .i64 .i64 n (by omega) (by omega) w
  have HL : Hid (xs.length = n) := hl
  have h0 : Hid ((w.alloc (.cells (madeCells #[(.slice none 0 0)] n) 27)).rowIs w.heap.size 27 n (partV (.slice none 0 0) (fun _ => (.slice none 0 0)) 0)) := (World.rowIs_made w (.slice none 0 0) n 27).congr (fun i _ => by simp [partV])
  have HLn0 : Hid (∀ i, i < n → (xs.getD i []).length ≤ 1048576) := hln
  clear hl hln
  go_enter Try.func31, Try.ntmps31
  go_wp2_with fail
  go_loopw [4] (fun i wr => ∃ (k : Nat) (V : Nat → Value), k ≤ n ∧ i = .int .i64 k ∧ wr.rowIs w.heap.size 27 n (partV (.slice none 0 0) V k) ∧ (∀ j, j < k → SlB (w.heap.size + 1) wr.heap.size wr (V j) (xs.getD j [])) ∧ Below w.heap.size w wr ∧ w.heap.size + 1 ≤ wr.heap.size ∧ Free (w.heap.size + 1) wr.heap.size wr) (fun i _ => n - (intOf i).toNat)
  case atStart => exact ⟨0, _, Nat.zero_le _, rfl, h0.out, fun j hj => by omega, (Below.refl _ _).alloc (Nat.le_refl _) _, by simp, by rw [World.size_alloc]; exact Free.nil _ _⟩
  case round =>
    obtain ⟨k, V, hk, rfl, hrow, hkids, hbel, hsz, hfr⟩ := hrel
    have HFr : Hid (Free (w.heap.size + 1) wr.heap.size wr) := hfr
    clear hfr
    have HB : Hid (Below w.heap.size w wr) := hbel
    have HRow : Hid (wr.rowIs w.heap.size 27 n (partV (.slice none 0 0) V k)) := hrow
    have HKids : Hid (∀ j, j < k → SlB (w.heap.size + 1) wr.heap.size wr (V j) (xs.getD j [])) := hkids
    by_cases hlt : k < n
    · have hR := HR0.out.below hbel hhi
      rcases hR.cells with hz | ⟨b, off, e1, _, hbhi, hc⟩
      · omega
      · subst e1
        obtain ⟨v, c0, ea, en, ec, rfl, hr0⟩ := hc k hlt
        have hr : Hid (Rd lo hi wr ea en ec (xs.getD k [])) := hr0
        have hki : (k : Int) < (n : Int) := by omega
        have HLn : Hid (∀ i, i < n → en ≤ 1048576) := by intro i hi; have := HLn0.out k hlt; rw [hr0.len] at this; exact this
        clear hR hc hr0 hrow hkids hbel
        go_wp2_with fail
        refine (toByteS_one ea en ec (xs.getD k []) wr hr.out (Nat.le_trans hhi HB.out.size) (HLn.out k hlt)).mono ?_
        rintro e w' ⟨rfl, hrow', hb', hs'⟩
        have HNew : Hid (SlB wr.heap.size w'.heap.size w' (.slice (some ⟨wr.heap.size, 0, none⟩) en en) (xs.getD k [])) := ⟨_, _, _, rfl, hrow'.rd hr.out.len hr.out.byte (by have := HLn.out k hlt; omega) (Nat.le_refl _) hrow'.lt⟩
        have hfr2 : Free (w.heap.size + 1) w'.heap.size w' := HFr.out.next hb' (free_row hrow' hs')
        have hrow2 : w'.rowIs w.heap.size 27 n (partV (.slice none 0 0) V k) := rowIs_block HRow.out (hb'.block _ (rowIs_lt HRow.out))
        have hfz := hrow2.frozen k
        have hold : w'.cell? ⟨w.heap.size, k, none⟩ = some (.slice none 0 0) := by have := hrow2.cell hlt; simpa [partV] using this
        obtain ⟨U, hU⟩ : ∃ U, U = w'.setCell ⟨w.heap.size, k, none⟩ (.slice (some ⟨wr.heap.size, 0, none⟩) en en) := ⟨_, rfl⟩
        have HU : Hid (U = w'.setCell ⟨w.heap.size, k, none⟩ (.slice (some ⟨wr.heap.size, 0, none⟩) en en)) := hU
        have hsU : U.heap.size = w'.heap.size := by rw [hU]; simp
        have hsm : Same (w.heap.size + 1) w'.heap.size w' U := by rw [hU]; exact fun b h1 _ => Below.heap_setCell w' ⟨w.heap.size, k, none⟩ _ b (by show b ≠ w.heap.size; omega)
        have HR2 : Hid (U.rowIs w.heap.size 27 n (partV (.slice none 0 0) (fun i => if i = k then .slice (some ⟨wr.heap.size, 0, none⟩) en en else V i) (k + 1))) := by unfold Hid; rw [hU]; exact partV_step _ hrow2
        have HFr2 : Hid (Free (w.heap.size + 1) U.heap.size U) := by unfold Hid; rw [hsU, hU]; exact hfr2.set _ _
        clear hfr2
        have HB2 : Hid (Below w.heap.size w U) := by unfold Hid; rw [hU]; exact (HB.out.trans (hb'.mono HB.out.size)).setCell (Nat.le_refl _) _
        have HK2 : Hid (∀ j, j < k + 1 → SlB (w.heap.size + 1) U.heap.size U (if j = k then .slice (some ⟨wr.heap.size, 0, none⟩) en en else V j) (xs.getD j [])) := by
          intro j hj
          rw [hsU]
          by_cases e : j = k
          · subst e
            rw [if_pos rfl]
            exact (HNew.out.mono (by omega) (Nat.le_refl _)).same hsm
          · rw [if_neg e]
            exact (((HKids.out j (by omega)).same (Same.of_below hb' (Nat.le_refl _))).mono (Nat.le_refl _) hb'.size).same hsm
        have hsz2 : w.heap.size + 1 ≤ U.heap.size := by have := hb'.size; omega
        clear hrow' hb' hrow2 hsm hU
        go_wp2_with fail
        rw [← HU.out]
        go_roundw
        case rel => exact ⟨k + 1, _, by omega, by go_num, HR2.out, HK2.out, HB2.out, hsz2, HFr2.out⟩
        case measure => simp [intOf]; omega
    · have hkn : k = n := by omega
      have HRd : Hid (RSS w.heap.size wr.heap.size wr (some ⟨w.heap.size, 0, none⟩) n n xs) := by
        refine ⟨HL.out, ⟨Nat.le_refl _, by omega⟩, .inr ⟨w.heap.size, 0, rfl, Nat.le_refl _, by omega, fun i hi => ⟨V i, ?_, (HKids.out i (by omega)).mono (by omega) (Nat.le_refl _)⟩⟩⟩
        have := HRow.out.cell hi
        rw [Nat.zero_add, this]
        simp [partV, hkn, hi]
      have HFz : Hid (Free w.heap.size wr.heap.size wr) := fun b h1 h2 o => by
        by_cases e : b = w.heap.size
        · subst e; exact HRow.out.frozen o
        · exact HFr.out b (by omega) h2 o
      clear hrow hkids hbel hkn
      go_wp2_with fail
      go_ret
      exact ⟨rfl, HRd.out, HB.out, HFz.out⟩

set_option maxHeartbeats 1600000 in
theorem toBoolSS_fr (a : Option Addr) (n cap : Nat) (xs : List (List Bool)) (w : World) {lo hi : Nat} (h : RFF lo hi w a n cap xs) (hhi : hi ≤ w.heap.size) (hn : n ≤ 1048576) (hln : ∀ i, i < n → (xs.getD i []).length ≤ 1048576) :
    Calls Try.prog 32 #[.slice a n cap] w fun e w' => e = .returned (.slice (some ⟨w.heap.size, 0, none⟩) n n) ∧ RFF w.heap.size w'.heap.size w' (some ⟨w.heap.size, 0, none⟩) n n xs ∧ Below w.heap.size w w' ∧ Free w.heap.size w'.heap.size w' := by
  have HR0 : Hid (RFF lo hi w a n cap xs) := h
  obtain ⟨hl, ⟨hm, _⟩, _⟩ := h
  have hmk := fun w : World => run_make_row' (P := Try.prog) 23 69 (.slice none 0 0) 24 Try.underlying23 Try.infotoBoolSS rfl .i64 .i64 n (by omega) (by omega) w
  have HL : Hid (xs.length = n) := hl
  have h0 : Hid ((w.alloc (.cells (madeCells #[(.slice none 0 0)] n) 69)).rowIs w.heap.size 69 n (partV (.slice none 0 0) (fun _ => (.slice none 0 0)) 0)) := (World.rowIs_made w (.slice none 0 0) n 69).congr (fun i _ => by simp [partV])
  have HLn0 : Hid (∀ i, i < n → (xs.getD i []).length ≤ 1048576) := hln
  clear hl hln
  go_enter Try.func32, Try.ntmps32
  go_wp2_with fail
  go_loopw [4] (fun i wr => ∃ (k : Nat) (V : Nat → Value), k ≤ n ∧ i = .int .i64 k ∧ wr.rowIs w.heap.size 69 n (partV (.slice none 0 0) V k) ∧ (∀ j, j < k → SlF (w.heap.size + 1) wr.heap.size wr (V j) (xs.getD j [])) ∧ Below w.heap.size w wr ∧ w.heap.size + 1 ≤ wr.heap.size ∧ Free (w.heap.size + 1) wr.heap.size wr) (fun i _ => n - (intOf i).toNat)
  case atStart => exact ⟨0, _, Nat.zero_le _, rfl, h0.out, fun j hj => by omega, (Below.refl _ _).alloc (Nat.le_refl _) _, by simp, by rw [World.size_alloc]; exact Free.nil _ _⟩
  case round =>
    obtain ⟨k, V, hk, rfl, hrow, hkids, hbel, hsz, hfr⟩ := hrel
    have HFr : Hid (Free (w.heap.size + 1) wr.heap.size wr) := hfr
    clear hfr
    have HB : Hid (Below w.heap.size w wr) := hbel
    have HRow : Hid (wr.rowIs w.heap.size 69 n (partV (.slice none 0 0) V k)) := hrow
    have HKids : Hid (∀ j, j < k → SlF (w.heap.size + 1) wr.heap.size wr (V j) (xs.getD j [])) := hkids
    by_cases hlt : k < n
    · have hR := HR0.out.below hbel hhi
      rcases hR.cells with hz | ⟨b, off, e1, _, hbhi, hc⟩
      · omega
      · subst e1
        obtain ⟨v, c0, ea, en, ec, rfl, hr0⟩ := hc k hlt
        have hr : Hid (RB lo hi wr ea en ec (xs.getD k [])) := hr0
        have hki : (k : Int) < (n : Int) := by omega
        have HLn : Hid (∀ i, i < n → en ≤ 1048576) := by intro i hi; have := HLn0.out k hlt; rw [hr0.len] at this; exact this
        clear hR hc hr0 hrow hkids hbel
        go_wp2_with fail
        refine (toBoolS_fr ea en ec (xs.getD k []) wr hr.out (Nat.le_trans hhi HB.out.size) (HLn.out k hlt)).mono ?_
        rintro e w' ⟨rfl, hrow', hb', hs', hf'⟩
        have HNew : Hid (SlF wr.heap.size w'.heap.size w' (.slice (some ⟨wr.heap.size, 0, none⟩) en en) (xs.getD k [])) := ⟨_, _, _, rfl, hrow'.mono (Nat.le_refl _) (by omega)⟩
        have hfr2 : Free (w.heap.size + 1) w'.heap.size w' := HFr.out.next hb' (hf')
        have hrow2 : w'.rowIs w.heap.size 69 n (partV (.slice none 0 0) V k) := rowIs_block HRow.out (hb'.block _ (rowIs_lt HRow.out))
        have hfz := hrow2.frozen k
        have hold : w'.cell? ⟨w.heap.size, k, none⟩ = some (.slice none 0 0) := by have := hrow2.cell hlt; simpa [partV] using this
        obtain ⟨U, hU⟩ : ∃ U, U = w'.setCell ⟨w.heap.size, k, none⟩ (.slice (some ⟨wr.heap.size, 0, none⟩) en en) := ⟨_, rfl⟩
        have HU : Hid (U = w'.setCell ⟨w.heap.size, k, none⟩ (.slice (some ⟨wr.heap.size, 0, none⟩) en en)) := hU
        have hsU : U.heap.size = w'.heap.size := by rw [hU]; simp
        have hsm : Same (w.heap.size + 1) w'.heap.size w' U := by rw [hU]; exact fun b h1 _ => Below.heap_setCell w' ⟨w.heap.size, k, none⟩ _ b (by show b ≠ w.heap.size; omega)
        have HR2 : Hid (U.rowIs w.heap.size 69 n (partV (.slice none 0 0) (fun i => if i = k then .slice (some ⟨wr.heap.size, 0, none⟩) en en else V i) (k + 1))) := by unfold Hid; rw [hU]; exact partV_step _ hrow2
        have HFr2 : Hid (Free (w.heap.size + 1) U.heap.size U) := by unfold Hid; rw [hsU, hU]; exact hfr2.set _ _
        clear hfr2
        have HB2 : Hid (Below w.heap.size w U) := by unfold Hid; rw [hU]; exact (HB.out.trans (hb'.mono HB.out.size)).setCell (Nat.le_refl _) _
        have HK2 : Hid (∀ j, j < k + 1 → SlF (w.heap.size + 1) U.heap.size U (if j = k then .slice (some ⟨wr.heap.size, 0, none⟩) en en else V j) (xs.getD j [])) := by
          intro j hj
          rw [hsU]
          by_cases e : j = k
          · subst e
            rw [if_pos rfl]
            exact (HNew.out.mono (by omega) (Nat.le_refl _)).same hsm
          · rw [if_neg e]
            exact (((HKids.out j (by omega)).same (Same.of_below hb' (Nat.le_refl _))).mono (Nat.le_refl _) hb'.size).same hsm
        have hsz2 : w.heap.size + 1 ≤ U.heap.size := by have := hb'.size; omega
        clear hrow' hb' hrow2 hsm hU
        go_wp2_with fail
        rw [← HU.out]
        go_roundw
        case rel => exact ⟨k + 1, _, by omega, by go_num, HR2.out, HK2.out, HB2.out, hsz2, HFr2.out⟩
        case measure => simp [intOf]; omega
    · have hkn : k = n := by omega
      have HRd : Hid (RFF w.heap.size wr.heap.size wr (some ⟨w.heap.size, 0, none⟩) n n xs) := by
        refine ⟨HL.out, ⟨Nat.le_refl _, by omega⟩, .inr ⟨w.heap.size, 0, rfl, Nat.le_refl _, by omega, fun i hi => ⟨V i, ?_, (HKids.out i (by omega)).mono (by omega) (Nat.le_refl _)⟩⟩⟩
        have := HRow.out.cell hi
        rw [Nat.zero_add, this]
        simp [partV, hkn, hi]
      have HFz : Hid (Free w.heap.size wr.heap.size wr) := fun b h1 h2 o => by
        by_cases e : b = w.heap.size
        · subst e; exact HRow.out.frozen o
        · exact HFr.out b (by omega) h2 o
      clear hrow hkids hbel hkn
      go_wp2_with fail
      go_ret
      exact ⟨rfl, HRd.out, HB.out, HFz.out⟩

set_option maxRecDepth 100000 in
set_option maxHeartbeats 4000000 in
theorem toW_fr {na : Option Addr} {nn nc : Nat} {sa : Option Addr} {sn sc : Nat} {ra : Option Addr} {rn rc : Nat} {la : Option Addr} {ln lc : Nat} {ia : Option Addr} {im ic : Nat} {ta : Option Addr} {tn tc : Nat} {x : WD} {w : World} {lo hi : Nat} (h : RdW lo hi w na nn nc sa sn sc ra rn rc la ln lc ia im ic ta tn tc x) (hhi : hi ≤ w.heap.size) (hbd : BdW x nn sn rn ln im tn) (nx : Int) :
    Calls Try.prog 8 #[.agg #[.int .i64 nx, .slice na nn nc, .slice sa sn sc, .slice ra rn rc, .slice la ln lc, .slice ia im ic, .slice ta tn tc]] w fun e w' => ∃ g0 g1 g2 g3 g4 g5, e = .returned (.agg #[.int .i64 nx, .slice (some ⟨g0, 0, none⟩) nn nn, .slice (some ⟨g1, 0, none⟩) sn sn, .slice (some ⟨g2, 0, none⟩) rn rn, .slice (some ⟨g3, 0, none⟩) ln ln, .slice (some ⟨g4, 0, none⟩) im im, .slice (some ⟨g5, 0, none⟩) tn tn]) ∧ RdW w.heap.size w'.heap.size w' (some ⟨g0, 0, none⟩) nn nn (some ⟨g1, 0, none⟩) sn sn (some ⟨g2, 0, none⟩) rn rn (some ⟨g3, 0, none⟩) ln ln (some ⟨g4, 0, none⟩) im im (some ⟨g5, 0, none⟩) tn tn x ∧ Below w.heap.size w w' ∧ Free w.heap.size w'.heap.size w' := by
  obtain ⟨W1, hW1⟩ : ∃ W1, W1 = ((w.alloc (.cells #[.int .i64 nx, .slice na nn nc, .slice sa sn sc, .slice ra rn rc, .slice la ln lc, .slice ia im ic, .slice ta tn tc] 26)).alloc (.cells #[.int .i64 0, .slice none 0 0, .slice none 0 0, .slice none 0 0, .slice none 0 0, .slice none 0 0, .slice none 0 0] 34)).alloc (.cells #[.int .i64 nx, .slice none 0 0, .slice none 0 0, .slice none 0 0, .slice none 0 0, .slice none 0 0, .slice none 0 0] 34) := ⟨_, rfl⟩
  have HW1 : Hid (W1 = ((w.alloc (.cells #[.int .i64 nx, .slice na nn nc, .slice sa sn sc, .slice ra rn rc, .slice la ln lc, .slice ia im ic, .slice ta tn tc] 26)).alloc (.cells #[.int .i64 0, .slice none 0 0, .slice none 0 0, .slice none 0 0, .slice none 0 0, .slice none 0 0, .slice none 0 0] 34)).alloc (.cells #[.int .i64 nx, .slice none 0 0, .slice none 0 0, .slice none 0 0, .slice none 0 0, .slice none 0 0, .slice none 0 0] 34)) := hW1
  have hs1 : W1.heap.size = w.heap.size + 3 := by rw [hW1]; simp
  have hb0 : Below w.heap.size w W1 := by rw [hW1]; exact (((Below.refl _ _).alloc (Nat.le_refl _) _).alloc (by simp) _).alloc (by simp; omega) _
  have HB0 : Hid (Below w.heap.size w W1) := hb0
  have hlx : BoxW 26 W1 w.heap.size nx (.slice na nn nc) (.slice sa sn sc) (.slice ra rn rc) (.slice la ln lc) (.slice ia im ic) (.slice ta tn tc) := by rw [hW1]; exact ((BoxW.new _ w _ _ _ _ _ _ _).below ((Below.refl _ _).alloc (Nat.le_refl _) _) (by simp)).below ((Below.refl _ _).alloc (Nat.le_refl _) _) (by simp; omega)
  have hrx : BoxW 34 W1 (w.heap.size + 1) 0 (.slice none 0 0) (.slice none 0 0) (.slice none 0 0) (.slice none 0 0) (.slice none 0 0) (.slice none 0 0) := by
    rw [hW1]
    have := BoxW.new 34 (w.alloc (.cells #[.int .i64 nx, .slice na nn nc, .slice sa sn sc, .slice ra rn rc, .slice la ln lc, .slice ia im ic, .slice ta tn tc] 26)) 0 (.slice none 0 0) (.slice none 0 0) (.slice none 0 0) (.slice none 0 0) (.slice none 0 0) (.slice none 0 0)
    rw [World.size_alloc] at this
    exact this.below ((Below.refl _ _).alloc (Nat.le_refl _) _) (by simp)
  have hox : BoxW 34 W1 (w.heap.size + 1 + 1) nx (.slice none 0 0) (.slice none 0 0) (.slice none 0 0) (.slice none 0 0) (.slice none 0 0) (.slice none 0 0) := by
    rw [hW1]
    have := BoxW.new 34 ((w.alloc (.cells #[.int .i64 nx, .slice na nn nc, .slice sa sn sc, .slice ra rn rc, .slice la ln lc, .slice ia im ic, .slice ta tn tc] 26)).alloc (.cells #[.int .i64 0, .slice none 0 0, .slice none 0 0, .slice none 0 0, .slice none 0 0, .slice none 0 0, .slice none 0 0] 34)) nx (.slice none 0 0) (.slice none 0 0) (.slice none 0 0) (.slice none 0 0) (.slice none 0 0) (.slice none 0 0)
    rwa [World.size_alloc, World.size_alloc] at this
  have HLx : Hid (∀ W, Below (w.heap.size + 2) W1 W → BoxW 26 W w.heap.size nx (.slice na nn nc) (.slice sa sn sc) (.slice ra rn rc) (.slice la ln lc) (.slice ia im ic) (.slice ta tn tc)) := fun W hW => hlx.below hW (by omega)
  have HRx : Hid (∀ W, Below (w.heap.size + 2) W1 W → BoxW 34 W (w.heap.size + 1) 0 (.slice none 0 0) (.slice none 0 0) (.slice none 0 0) (.slice none 0 0) (.slice none 0 0) (.slice none 0 0)) := fun W hW => hrx.below hW (by omega)
  have HOx0 : Hid (BoxW 34 W1 (w.heap.size + 1 + 1) nx (.slice none 0 0) (.slice none 0 0) (.slice none 0 0) (.slice none 0 0) (.slice none 0 0) (.slice none 0 0)) := hox
  have HS1 : Hid (W1.heap.size = w.heap.size + 3) := hs1
  have HRd : Hid (∀ W, Below (w.heap.size + 2) W1 W → RdW lo hi W na nn nc sa sn sc ra rn rc la ln lc ia im ic ta tn tc x ∧ hi ≤ W.heap.size) := fun W hW => ⟨(h.below hb0 hhi).below hW (by omega), Nat.le_trans (Nat.le_trans hhi hb0.size) hW.size⟩
  have HBd : Hid (BdW x nn sn rn ln im tn) := hbd
  have HU0 : Hid (Below (w.heap.size + 2) W1 W1) := Below.refl _ _
  obtain ⟨z0, z1, z2, z3, z4, z5, z6⟩ := hlx.cells
  have hne0 : w.heap.size ≠ w.heap.size + 1 + 1 := by omega
  clear h hb0 hW1 hlx hrx hox hbd hs1
  go_enter Try.func8, Try.ntmps8
  go_upto_region 3 with fail
  rw [← HW1.out]
  go_wp2_with fail
  refine (toByteSS_fr na nn nc x.names W1 (HRd.out _ HU0.out).1.names (HRd.out _ HU0.out).2 HBd.out.n.1 HBd.out.n.2).mono ?_
  rintro e v1 ⟨rfl, hrd0, hb0, hfn0⟩
  obtain ⟨g0, hg0⟩ : ∃ g, g = W1.heap.size := ⟨_, rfl⟩
  rw [← hg0] at hrd0 ⊢
  have hsb0 := hb0.size
  have hu0 := HU0.out.size
  have hox0 := HOx0.out.below hb0 HOx0.out.lt
  obtain ⟨o0, o1, o2, o3, o4, o5, o6⟩ := hox0.cells
  have gf := hox0.frz 1
  obtain ⟨U1, hE⟩ : ∃ U, U = v1.setCell ⟨w.heap.size + 1 + 1, 1, none⟩ (.slice (some ⟨g0, 0, none⟩) nn nn) := ⟨_, rfl⟩
  have HE1 : Hid (U1 = v1.setCell ⟨w.heap.size + 1 + 1, 1, none⟩ (.slice (some ⟨g0, 0, none⟩) nn nn)) := hE
  have HOx1 : Hid (BoxW 34 U1 (w.heap.size + 1 + 1) nx (.slice (some ⟨g0, 0, none⟩) nn nn) (.slice none 0 0) (.slice none 0 0) (.slice none 0 0) (.slice none 0 0) (.slice none 0 0)) := by unfold Hid; rw [hE]; exact hox0.at 1 _
  have hsU : U1.heap.size = v1.heap.size := by rw [hE]; simp
  have HV0 : Hid (Below (w.heap.size + 2) W1 v1) := HU0.out.trans (hb0.mono (by have := HS1.out; omega))
  have HU1 : Hid (Below (w.heap.size + 2) W1 U1) := by unfold Hid; rw [hE]; exact HV0.out.setCell (by show w.heap.size + 2 ≤ w.heap.size + 1 + 1; omega) _
  have hsm : Same W1.heap.size v1.heap.size v1 U1 := by
    rw [hE]
    have hp := HS1.out
    exact fun b h1 _ => Below.heap_setCell v1 ⟨w.heap.size + 1 + 1, 1, none⟩ _ b (by show b ≠ w.heap.size + 1 + 1; omega)
  have HFr0 : Hid (Free W1.heap.size U1.heap.size U1) := by unfold Hid; rw [hsU, hE]; exact Free.set (Free.next (w := W1) (Free.nil _ _) hb0 hfn0) _ _
  clear hfn0
  have HG0 : Hid (RSS W1.heap.size U1.heap.size U1 (some ⟨g0, 0, none⟩) nn nn x.names) := by
    have hp := HS1.out
    rw [Hid, hsU]
    exact (hrd0.mono (by omega) (Nat.le_refl _)).same hsm
  clear hrd0 hb0 hox0 hE hsm hg0 z0 z1 z2 z3 z4 z5 z6
  obtain ⟨z0, z1, z2, z3, z4, z5, z6⟩ := (HLx.out _ HV0.out).cells
  have hk0 := hsU
  clear hsU
  go_wp2_with fail
  rw [← HE1.out]
  refine (toBoolSS_fr sa sn sc x.sets U1 (HRd.out _ HU1.out).1.sets (HRd.out _ HU1.out).2 HBd.out.s.1 HBd.out.s.2).mono ?_
  rintro e v2 ⟨rfl, hrd1, hb1, hfn1⟩
  obtain ⟨g1, hg1⟩ : ∃ g, g = U1.heap.size := ⟨_, rfl⟩
  rw [← hg1] at hrd1 ⊢
  have hsb1 := hb1.size
  have hu1 := HU1.out.size
  clear o0 o1 o2 o3 o4 o5 o6 gf
  have hox1 := HOx1.out.below hb1 HOx1.out.lt
  obtain ⟨o0, o1, o2, o3, o4, o5, o6⟩ := hox1.cells
  have gf := hox1.frz 2
  obtain ⟨U2, hE⟩ : ∃ U, U = v2.setCell ⟨w.heap.size + 1 + 1, 2, none⟩ (.slice (some ⟨g1, 0, none⟩) sn sn) := ⟨_, rfl⟩
  have HE2 : Hid (U2 = v2.setCell ⟨w.heap.size + 1 + 1, 2, none⟩ (.slice (some ⟨g1, 0, none⟩) sn sn)) := hE
  have HOx2 : Hid (BoxW 34 U2 (w.heap.size + 1 + 1) nx (.slice (some ⟨g0, 0, none⟩) nn nn) (.slice (some ⟨g1, 0, none⟩) sn sn) (.slice none 0 0) (.slice none 0 0) (.slice none 0 0) (.slice none 0 0)) := by unfold Hid; rw [hE]; exact hox1.at 2 _
  have hsU : U2.heap.size = v2.heap.size := by rw [hE]; simp
  have HV1 : Hid (Below (w.heap.size + 2) W1 v2) := HU1.out.trans (hb1.mono (by have := HS1.out; omega))
  have HU2 : Hid (Below (w.heap.size + 2) W1 U2) := by unfold Hid; rw [hE]; exact HV1.out.setCell (by show w.heap.size + 2 ≤ w.heap.size + 1 + 1; omega) _
  have hsm : Same W1.heap.size v2.heap.size v2 U2 := by
    rw [hE]
    have hp := HS1.out
    exact fun b h1 _ => Below.heap_setCell v2 ⟨w.heap.size + 1 + 1, 2, none⟩ _ b (by show b ≠ w.heap.size + 1 + 1; omega)
  have HFr1 : Hid (Free W1.heap.size U2.heap.size U2) := by unfold Hid; rw [hsU, hE]; exact Free.set (Free.next (w := U1) HFr0.out hb1 hfn1) _ _
  clear hfn1
  have HG1 : Hid (RSS W1.heap.size U2.heap.size U2 (some ⟨g0, 0, none⟩) nn nn x.names ∧ RFF W1.heap.size U2.heap.size U2 (some ⟨g1, 0, none⟩) sn sn x.sets) := by
    have hp := HS1.out
    rw [Hid, hsU]
    exact ⟨((HG0.out.same (Same.of_below hb1 (Nat.le_refl _))).mono (Nat.le_refl _) hb1.size).same hsm, (hrd1.mono (by omega) (Nat.le_refl _)).same hsm⟩
  clear hrd1 hb1 hox1 hE hsm hg1 z0 z1 z2 z3 z4 z5 z6
  obtain ⟨z0, z1, z2, z3, z4, z5, z6⟩ := (HLx.out _ HV1.out).cells
  have hk1 := hsU
  clear hsU
  go_wp2_with fail
  rw [← HE2.out]
  refine (toByteSS_fr ra rn rc x.roles U2 (HRd.out _ HU2.out).1.roles (HRd.out _ HU2.out).2 HBd.out.r.1 HBd.out.r.2).mono ?_
  rintro e v3 ⟨rfl, hrd2, hb2, hfn2⟩
  obtain ⟨g2, hg2⟩ : ∃ g, g = U2.heap.size := ⟨_, rfl⟩
  rw [← hg2] at hrd2 ⊢
  have hsb2 := hb2.size
  have hu2 := HU2.out.size
  clear o0 o1 o2 o3 o4 o5 o6 gf
  have hox2 := HOx2.out.below hb2 HOx2.out.lt
  obtain ⟨o0, o1, o2, o3, o4, o5, o6⟩ := hox2.cells
  have gf := hox2.frz 3
  obtain ⟨U3, hE⟩ : ∃ U, U = v3.setCell ⟨w.heap.size + 1 + 1, 3, none⟩ (.slice (some ⟨g2, 0, none⟩) rn rn) := ⟨_, rfl⟩
  have HE3 : Hid (U3 = v3.setCell ⟨w.heap.size + 1 + 1, 3, none⟩ (.slice (some ⟨g2, 0, none⟩) rn rn)) := hE
  have HOx3 : Hid (BoxW 34 U3 (w.heap.size + 1 + 1) nx (.slice (some ⟨g0, 0, none⟩) nn nn) (.slice (some ⟨g1, 0, none⟩) sn sn) (.slice (some ⟨g2, 0, none⟩) rn rn) (.slice none 0 0) (.slice none 0 0) (.slice none 0 0)) := by unfold Hid; rw [hE]; exact hox2.at 3 _
  have hsU : U3.heap.size = v3.heap.size := by rw [hE]; simp
  have HV2 : Hid (Below (w.heap.size + 2) W1 v3) := HU2.out.trans (hb2.mono (by have := HS1.out; omega))
  have HU3 : Hid (Below (w.heap.size + 2) W1 U3) := by unfold Hid; rw [hE]; exact HV2.out.setCell (by show w.heap.size + 2 ≤ w.heap.size + 1 + 1; omega) _
  have hsm : Same W1.heap.size v3.heap.size v3 U3 := by
    rw [hE]
    have hp := HS1.out
    exact fun b h1 _ => Below.heap_setCell v3 ⟨w.heap.size + 1 + 1, 3, none⟩ _ b (by show b ≠ w.heap.size + 1 + 1; omega)
  have HFr2 : Hid (Free W1.heap.size U3.heap.size U3) := by unfold Hid; rw [hsU, hE]; exact Free.set (Free.next (w := U2) HFr1.out hb2 hfn2) _ _
  clear hfn2
  have HG2 : Hid (RSS W1.heap.size U3.heap.size U3 (some ⟨g0, 0, none⟩) nn nn x.names ∧ RFF W1.heap.size U3.heap.size U3 (some ⟨g1, 0, none⟩) sn sn x.sets ∧ RSS W1.heap.size U3.heap.size U3 (some ⟨g2, 0, none⟩) rn rn x.roles) := by
    have hp := HS1.out
    rw [Hid, hsU]
    exact ⟨((HG1.out.1.same (Same.of_below hb2 (Nat.le_refl _))).mono (Nat.le_refl _) hb2.size).same hsm, ((HG1.out.2.same (Same.of_below hb2 (Nat.le_refl _))).mono (Nat.le_refl _) hb2.size).same hsm, (hrd2.mono (by omega) (Nat.le_refl _)).same hsm⟩
  clear hrd2 hb2 hox2 hE hsm hg2 z0 z1 z2 z3 z4 z5 z6
  obtain ⟨z0, z1, z2, z3, z4, z5, z6⟩ := (HLx.out _ HV2.out).cells
  have hk2 := hsU
  clear hsU
  go_wp2_with fail
  rw [← HE3.out]
  refine (toBoolSS_fr la ln lc x.rels U3 (HRd.out _ HU3.out).1.rels (HRd.out _ HU3.out).2 HBd.out.l.1 HBd.out.l.2).mono ?_
  rintro e v4 ⟨rfl, hrd3, hb3, hfn3⟩
  obtain ⟨g3, hg3⟩ : ∃ g, g = U3.heap.size := ⟨_, rfl⟩
  rw [← hg3] at hrd3 ⊢
  have hsb3 := hb3.size
  have hu3 := HU3.out.size
  clear o0 o1 o2 o3 o4 o5 o6 gf
  have hox3 := HOx3.out.below hb3 HOx3.out.lt
  obtain ⟨o0, o1, o2, o3, o4, o5, o6⟩ := hox3.cells
  have gf := hox3.frz 4
  obtain ⟨U4, hE⟩ : ∃ U, U = v4.setCell ⟨w.heap.size + 1 + 1, 4, none⟩ (.slice (some ⟨g3, 0, none⟩) ln ln) := ⟨_, rfl⟩
  have HE4 : Hid (U4 = v4.setCell ⟨w.heap.size + 1 + 1, 4, none⟩ (.slice (some ⟨g3, 0, none⟩) ln ln)) := hE
  have HOx4 : Hid (BoxW 34 U4 (w.heap.size + 1 + 1) nx (.slice (some ⟨g0, 0, none⟩) nn nn) (.slice (some ⟨g1, 0, none⟩) sn sn) (.slice (some ⟨g2, 0, none⟩) rn rn) (.slice (some ⟨g3, 0, none⟩) ln ln) (.slice none 0 0) (.slice none 0 0)) := by unfold Hid; rw [hE]; exact hox3.at 4 _
  have hsU : U4.heap.size = v4.heap.size := by rw [hE]; simp
  have HV3 : Hid (Below (w.heap.size + 2) W1 v4) := HU3.out.trans (hb3.mono (by have := HS1.out; omega))
  have HU4 : Hid (Below (w.heap.size + 2) W1 U4) := by unfold Hid; rw [hE]; exact HV3.out.setCell (by show w.heap.size + 2 ≤ w.heap.size + 1 + 1; omega) _
  have hsm : Same W1.heap.size v4.heap.size v4 U4 := by
    rw [hE]
    have hp := HS1.out
    exact fun b h1 _ => Below.heap_setCell v4 ⟨w.heap.size + 1 + 1, 4, none⟩ _ b (by show b ≠ w.heap.size + 1 + 1; omega)
  have HFr3 : Hid (Free W1.heap.size U4.heap.size U4) := by unfold Hid; rw [hsU, hE]; exact Free.set (Free.next (w := U3) HFr2.out hb3 hfn3) _ _
  clear hfn3
  have HG3 : Hid (RSS W1.heap.size U4.heap.size U4 (some ⟨g0, 0, none⟩) nn nn x.names ∧ RFF W1.heap.size U4.heap.size U4 (some ⟨g1, 0, none⟩) sn sn x.sets ∧ RSS W1.heap.size U4.heap.size U4 (some ⟨g2, 0, none⟩) rn rn x.roles ∧ RFF W1.heap.size U4.heap.size U4 (some ⟨g3, 0, none⟩) ln ln x.rels) := by
    have hp := HS1.out
    rw [Hid, hsU]
    exact ⟨((HG2.out.1.same (Same.of_below hb3 (Nat.le_refl _))).mono (Nat.le_refl _) hb3.size).same hsm, ((HG2.out.2.1.same (Same.of_below hb3 (Nat.le_refl _))).mono (Nat.le_refl _) hb3.size).same hsm, ((HG2.out.2.2.same (Same.of_below hb3 (Nat.le_refl _))).mono (Nat.le_refl _) hb3.size).same hsm, (hrd3.mono (by omega) (Nat.le_refl _)).same hsm⟩
  clear hrd3 hb3 hox3 hE hsm hg3 z0 z1 z2 z3 z4 z5 z6
  obtain ⟨z0, z1, z2, z3, z4, z5, z6⟩ := (HLx.out _ HV3.out).cells
  have hk3 := hsU
  clear hsU
  go_wp2_with fail
  rw [← HE4.out]
  refine (toByteSS_fr ia im ic x.inds U4 (HRd.out _ HU4.out).1.inds (HRd.out _ HU4.out).2 HBd.out.i.1 HBd.out.i.2).mono ?_
  rintro e v5 ⟨rfl, hrd4, hb4, hfn4⟩
  obtain ⟨g4, hg4⟩ : ∃ g, g = U4.heap.size := ⟨_, rfl⟩
  rw [← hg4] at hrd4 ⊢
  have hsb4 := hb4.size
  have hu4 := HU4.out.size
  clear o0 o1 o2 o3 o4 o5 o6 gf
  have hox4 := HOx4.out.below hb4 HOx4.out.lt
  obtain ⟨o0, o1, o2, o3, o4, o5, o6⟩ := hox4.cells
  have gf := hox4.frz 5
  obtain ⟨U5, hE⟩ : ∃ U, U = v5.setCell ⟨w.heap.size + 1 + 1, 5, none⟩ (.slice (some ⟨g4, 0, none⟩) im im) := ⟨_, rfl⟩
  have HE5 : Hid (U5 = v5.setCell ⟨w.heap.size + 1 + 1, 5, none⟩ (.slice (some ⟨g4, 0, none⟩) im im)) := hE
  have HOx5 : Hid (BoxW 34 U5 (w.heap.size + 1 + 1) nx (.slice (some ⟨g0, 0, none⟩) nn nn) (.slice (some ⟨g1, 0, none⟩) sn sn) (.slice (some ⟨g2, 0, none⟩) rn rn) (.slice (some ⟨g3, 0, none⟩) ln ln) (.slice (some ⟨g4, 0, none⟩) im im) (.slice none 0 0)) := by unfold Hid; rw [hE]; exact hox4.at 5 _
  have hsU : U5.heap.size = v5.heap.size := by rw [hE]; simp
  have HV4 : Hid (Below (w.heap.size + 2) W1 v5) := HU4.out.trans (hb4.mono (by have := HS1.out; omega))
  have HU5 : Hid (Below (w.heap.size + 2) W1 U5) := by unfold Hid; rw [hE]; exact HV4.out.setCell (by show w.heap.size + 2 ≤ w.heap.size + 1 + 1; omega) _
  have hsm : Same W1.heap.size v5.heap.size v5 U5 := by
    rw [hE]
    have hp := HS1.out
    exact fun b h1 _ => Below.heap_setCell v5 ⟨w.heap.size + 1 + 1, 5, none⟩ _ b (by show b ≠ w.heap.size + 1 + 1; omega)
  have HFr4 : Hid (Free W1.heap.size U5.heap.size U5) := by unfold Hid; rw [hsU, hE]; exact Free.set (Free.next (w := U4) HFr3.out hb4 hfn4) _ _
  clear hfn4
  have HG4 : Hid (RSS W1.heap.size U5.heap.size U5 (some ⟨g0, 0, none⟩) nn nn x.names ∧ RFF W1.heap.size U5.heap.size U5 (some ⟨g1, 0, none⟩) sn sn x.sets ∧ RSS W1.heap.size U5.heap.size U5 (some ⟨g2, 0, none⟩) rn rn x.roles ∧ RFF W1.heap.size U5.heap.size U5 (some ⟨g3, 0, none⟩) ln ln x.rels ∧ RSS W1.heap.size U5.heap.size U5 (some ⟨g4, 0, none⟩) im im x.inds) := by
    have hp := HS1.out
    rw [Hid, hsU]
    exact ⟨((HG3.out.1.same (Same.of_below hb4 (Nat.le_refl _))).mono (Nat.le_refl _) hb4.size).same hsm, ((HG3.out.2.1.same (Same.of_below hb4 (Nat.le_refl _))).mono (Nat.le_refl _) hb4.size).same hsm, ((HG3.out.2.2.1.same (Same.of_below hb4 (Nat.le_refl _))).mono (Nat.le_refl _) hb4.size).same hsm, ((HG3.out.2.2.2.same (Same.of_below hb4 (Nat.le_refl _))).mono (Nat.le_refl _) hb4.size).same hsm, (hrd4.mono (by omega) (Nat.le_refl _)).same hsm⟩
  clear hrd4 hb4 hox4 hE hsm hg4 z0 z1 z2 z3 z4 z5 z6
  obtain ⟨z0, z1, z2, z3, z4, z5, z6⟩ := (HLx.out _ HV4.out).cells
  have hk4 := hsU
  clear hsU
  go_wp2_with fail
  rw [← HE5.out]
  refine (toIntS_fr ta tn tc x.at' U5 (HRd.out _ HU5.out).1.at' (HRd.out _ HU5.out).2 HBd.out.t).mono ?_
  rintro e v6 ⟨rfl, hrd5, hb5, hsz5, hfn5⟩
  have hrd5 := hrd5.mono (Nat.le_refl _) (Nat.le_of_eq hsz5.symm)
  obtain ⟨g5, hg5⟩ : ∃ g, g = U5.heap.size := ⟨_, rfl⟩
  rw [← hg5] at hrd5 ⊢
  have hsb5 := hb5.size
  have hu5 := HU5.out.size
  clear o0 o1 o2 o3 o4 o5 o6 gf
  have hox5 := HOx5.out.below hb5 HOx5.out.lt
  obtain ⟨o0, o1, o2, o3, o4, o5, o6⟩ := hox5.cells
  have gf := hox5.frz 6
  obtain ⟨U6, hE⟩ : ∃ U, U = v6.setCell ⟨w.heap.size + 1 + 1, 6, none⟩ (.slice (some ⟨g5, 0, none⟩) tn tn) := ⟨_, rfl⟩
  have HE6 : Hid (U6 = v6.setCell ⟨w.heap.size + 1 + 1, 6, none⟩ (.slice (some ⟨g5, 0, none⟩) tn tn)) := hE
  have HOx6 : Hid (BoxW 34 U6 (w.heap.size + 1 + 1) nx (.slice (some ⟨g0, 0, none⟩) nn nn) (.slice (some ⟨g1, 0, none⟩) sn sn) (.slice (some ⟨g2, 0, none⟩) rn rn) (.slice (some ⟨g3, 0, none⟩) ln ln) (.slice (some ⟨g4, 0, none⟩) im im) (.slice (some ⟨g5, 0, none⟩) tn tn)) := by unfold Hid; rw [hE]; exact hox5.at 6 _
  have hsU : U6.heap.size = v6.heap.size := by rw [hE]; simp
  have HV5 : Hid (Below (w.heap.size + 2) W1 v6) := HU5.out.trans (hb5.mono (by have := HS1.out; omega))
  have HU6 : Hid (Below (w.heap.size + 2) W1 U6) := by unfold Hid; rw [hE]; exact HV5.out.setCell (by show w.heap.size + 2 ≤ w.heap.size + 1 + 1; omega) _
  have hsm : Same W1.heap.size v6.heap.size v6 U6 := by
    rw [hE]
    have hp := HS1.out
    exact fun b h1 _ => Below.heap_setCell v6 ⟨w.heap.size + 1 + 1, 6, none⟩ _ b (by show b ≠ w.heap.size + 1 + 1; omega)
  have HFr5 : Hid (Free W1.heap.size U6.heap.size U6) := by unfold Hid; rw [hsU, hE]; exact Free.set (Free.next (w := U5) HFr4.out hb5 hfn5) _ _
  clear hfn5
  have HG5 : Hid (RSS W1.heap.size U6.heap.size U6 (some ⟨g0, 0, none⟩) nn nn x.names ∧ RFF W1.heap.size U6.heap.size U6 (some ⟨g1, 0, none⟩) sn sn x.sets ∧ RSS W1.heap.size U6.heap.size U6 (some ⟨g2, 0, none⟩) rn rn x.roles ∧ RFF W1.heap.size U6.heap.size U6 (some ⟨g3, 0, none⟩) ln ln x.rels ∧ RSS W1.heap.size U6.heap.size U6 (some ⟨g4, 0, none⟩) im im x.inds ∧ RI W1.heap.size U6.heap.size U6 (some ⟨g5, 0, none⟩) tn tn x.at') := by
    have hp := HS1.out
    rw [Hid, hsU]
    exact ⟨((HG4.out.1.same (Same.of_below hb5 (Nat.le_refl _))).mono (Nat.le_refl _) hb5.size).same hsm, ((HG4.out.2.1.same (Same.of_below hb5 (Nat.le_refl _))).mono (Nat.le_refl _) hb5.size).same hsm, ((HG4.out.2.2.1.same (Same.of_below hb5 (Nat.le_refl _))).mono (Nat.le_refl _) hb5.size).same hsm, ((HG4.out.2.2.2.1.same (Same.of_below hb5 (Nat.le_refl _))).mono (Nat.le_refl _) hb5.size).same hsm, ((HG4.out.2.2.2.2.same (Same.of_below hb5 (Nat.le_refl _))).mono (Nat.le_refl _) hb5.size).same hsm, (hrd5.mono (by omega) (Nat.le_refl _)).same hsm⟩
  clear hrd5 hb5 hox5 hE hsm hg5 z0 z1 z2 z3 z4 z5 z6 hsz5
  have hrxw := HRx.out _ HV5.out
  have hrxu := HRx.out _ HU6.out
  obtain ⟨t0, t1, t2, t3, t4, t5, t6⟩ := hrxw.cells
  have tf0 := hrxw.frz 0
  have tf1 := hrxw.frz 1
  have tf2 := hrxw.frz 2
  have tf3 := hrxw.frz 3
  have tf4 := hrxw.frz 4
  have tf5 := hrxw.frz 5
  have tf6 := hrxw.frz 6
  obtain ⟨s0, s1, s2, s3, s4, s5, s6⟩ := (hrxu.set7 nx (.slice (some ⟨g0, 0, none⟩) nn nn) (.slice (some ⟨g1, 0, none⟩) sn sn) (.slice (some ⟨g2, 0, none⟩) rn rn) (.slice (some ⟨g3, 0, none⟩) ln ln) (.slice (some ⟨g4, 0, none⟩) im im) (.slice (some ⟨g5, 0, none⟩) tn tn)).cells
  have HPost : Hid (RdW w.heap.size (set7 U6 (w.heap.size + 1) (.int .i64 nx) (.slice (some ⟨g0, 0, none⟩) nn nn) (.slice (some ⟨g1, 0, none⟩) sn sn) (.slice (some ⟨g2, 0, none⟩) rn rn) (.slice (some ⟨g3, 0, none⟩) ln ln) (.slice (some ⟨g4, 0, none⟩) im im) (.slice (some ⟨g5, 0, none⟩) tn tn)).heap.size (set7 U6 (w.heap.size + 1) (.int .i64 nx) (.slice (some ⟨g0, 0, none⟩) nn nn) (.slice (some ⟨g1, 0, none⟩) sn sn) (.slice (some ⟨g2, 0, none⟩) rn rn) (.slice (some ⟨g3, 0, none⟩) ln ln) (.slice (some ⟨g4, 0, none⟩) im im) (.slice (some ⟨g5, 0, none⟩) tn tn)) (some ⟨g0, 0, none⟩) nn nn (some ⟨g1, 0, none⟩) sn sn (some ⟨g2, 0, none⟩) rn rn (some ⟨g3, 0, none⟩) ln ln (some ⟨g4, 0, none⟩) im im (some ⟨g5, 0, none⟩) tn tn x ∧ Below w.heap.size w (set7 U6 (w.heap.size + 1) (.int .i64 nx) (.slice (some ⟨g0, 0, none⟩) nn nn) (.slice (some ⟨g1, 0, none⟩) sn sn) (.slice (some ⟨g2, 0, none⟩) rn rn) (.slice (some ⟨g3, 0, none⟩) ln ln) (.slice (some ⟨g4, 0, none⟩) im im) (.slice (some ⟨g5, 0, none⟩) tn tn))) := by
    have hp := HS1.out
    have hsf := size_set7 U6 (w.heap.size + 1) (.int .i64 nx) (.slice (some ⟨g0, 0, none⟩) nn nn) (.slice (some ⟨g1, 0, none⟩) sn sn) (.slice (some ⟨g2, 0, none⟩) rn rn) (.slice (some ⟨g3, 0, none⟩) ln ln) (.slice (some ⟨g4, 0, none⟩) im im) (.slice (some ⟨g5, 0, none⟩) tn tn)
    have hSm : Same W1.heap.size U6.heap.size U6 (set7 U6 (w.heap.size + 1) (.int .i64 nx) (.slice (some ⟨g0, 0, none⟩) nn nn) (.slice (some ⟨g1, 0, none⟩) sn sn) (.slice (some ⟨g2, 0, none⟩) rn rn) (.slice (some ⟨g3, 0, none⟩) ln ln) (.slice (some ⟨g4, 0, none⟩) im im) (.slice (some ⟨g5, 0, none⟩) tn tn)) := fun b h1 h2 => heap_set7 _ _ _ _ _ _ _ _ (by omega)
    have hG := HG5.out
    rw [Hid, hsf]
    exact ⟨⟨(hG.1.same hSm).mono (by omega) (Nat.le_refl _), (hG.2.1.same hSm).mono (by omega) (Nat.le_refl _), (hG.2.2.1.same hSm).mono (by omega) (Nat.le_refl _), (hG.2.2.2.1.same hSm).mono (by omega) (Nat.le_refl _), (hG.2.2.2.2.1.same hSm).mono (by omega) (Nat.le_refl _), (hG.2.2.2.2.2.same hSm).mono (by omega) (Nat.le_refl _)⟩, below_set7 (HB0.out.trans (HU6.out.mono (by omega))) (by omega) _ _ _ _ _ _ _⟩
  have HPf : Hid (Free w.heap.size (set7 U6 (w.heap.size + 1) (.int .i64 nx) (.slice (some ⟨g0, 0, none⟩) nn nn) (.slice (some ⟨g1, 0, none⟩) sn sn) (.slice (some ⟨g2, 0, none⟩) rn rn) (.slice (some ⟨g3, 0, none⟩) ln ln) (.slice (some ⟨g4, 0, none⟩) im im) (.slice (some ⟨g5, 0, none⟩) tn tn)).heap.size (set7 U6 (w.heap.size + 1) (.int .i64 nx) (.slice (some ⟨g0, 0, none⟩) nn nn) (.slice (some ⟨g1, 0, none⟩) sn sn) (.slice (some ⟨g2, 0, none⟩) rn rn) (.slice (some ⟨g3, 0, none⟩) ln ln) (.slice (some ⟨g4, 0, none⟩) im im) (.slice (some ⟨g5, 0, none⟩) tn tn))) := by
    have hp := HS1.out
    have hf0 : Free w.heap.size U6.heap.size U6 := fun b h1 h2 o => by
      by_cases e0 : b = w.heap.size
      · subst e0; exact (HLx.out _ HU6.out).frz o
      · by_cases e1 : b = w.heap.size + 1
        · subst e1; exact hrxu.frz o
        · by_cases e2 : b = w.heap.size + 1 + 1
          · subst e2; exact HOx6.out.frz o
          · exact HFr5.out b (by omega) h2 o
    rw [Hid, size_set7]
    unfold set7
    exact ((((((hf0.set _ _).set _ _).set _ _).set _ _).set _ _).set _ _).set _ _
  rw [HE6.out] at HPf HPost s0 s1 s2 s3 s4 s5 s6
  simp only [set7] at s0 s1 s2 s3 s4 s5 s6 HPost HPf
  clear hrxw hrxu
  go_wp2_with fail
  refine bodyPost_ret (v := .agg #[.int .i64 nx, .slice (some ⟨g0, 0, none⟩) nn nn, .slice (some ⟨g1, 0, none⟩) sn sn, .slice (some ⟨g2, 0, none⟩) rn rn, .slice (some ⟨g3, 0, none⟩) ln ln, .slice (some ⟨g4, 0, none⟩) im im, .slice (some ⟨g5, 0, none⟩) tn tn]) (by simp [results, Try.results8, go_sem, s0, s1, s2, s3, s4, s5, s6]) rfl ?_
  exact ⟨_, _, _, _, _, _, rfl, HPost.out.1, HPost.out.2, HPf.out⟩

end Go.Proofs.Ytfbokljbmihlbaa
