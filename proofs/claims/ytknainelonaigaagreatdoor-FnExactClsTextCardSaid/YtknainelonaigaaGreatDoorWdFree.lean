/- The laws' own copy of a world, anew: what it made may be written. -/
import Derived.Test.YtknainelonaigaaGreatDoorNWd
import Derived.Test.YtknainelonaigaaGreatDoorConTo
namespace Go.Proofs.YtknainelonaigaaGreatDoor
open Go.RowKit

set_option maxHeartbeats 1600000 in
theorem toByteSS_fr (a : Option Addr) (n cap : Nat) (xs : List (List Int)) (w : World) {lo hi : Nat} (h : RSS lo hi w a n cap xs) (hhi : hi ≤ w.heap.size) (hn : n ≤ 1048576) (hln : ∀ i, i < n → (xs.getD i []).length ≤ 1048576) :
    Calls Tryz.prog 21 #[.slice a n cap] w fun e w' => e = .returned (.slice (some ⟨w.heap.size, 0, none⟩) n n) ∧ RSS w.heap.size w'.heap.size w' (some ⟨w.heap.size, 0, none⟩) n n xs ∧ Below w.heap.size w w' ∧ Free w.heap.size w'.heap.size w' := by
  have HR0 : Hid (RSS lo hi w a n cap xs) := h
  obtain ⟨hl, ⟨hm, _⟩, _⟩ := h
  have hmk := fun w : World => run_make_row' (P := Tryz.prog) 23 28 (.slice none 0 0) 24 Tryz.underlying23 Tryz.infotoByteSS rfl .i64 .i64 n (by omega) (by omega) w
  have HL : Hid (xs.length = n) := hl
  have h0 : Hid ((w.alloc (.cells (madeCells #[(.slice none 0 0)] n) 28)).rowIs w.heap.size 28 n (partV (.slice none 0 0) (fun _ => (.slice none 0 0)) 0)) := (World.rowIs_made w (.slice none 0 0) n 28).congr (fun i _ => by simp [partV])
  have HLn0 : Hid (∀ i, i < n → (xs.getD i []).length ≤ 1048576) := hln
  clear hl hln
  go_enter Tryz.func21, Tryz.ntmps21
  go_wp2_with fail
  go_loopw [4] (fun i wr => ∃ (k : Nat) (V : Nat → Value), k ≤ n ∧ i = .int .i64 k ∧ wr.rowIs w.heap.size 28 n (partV (.slice none 0 0) V k) ∧ (∀ j, j < k → SlB (w.heap.size + 1) wr.heap.size wr (V j) (xs.getD j [])) ∧ Below w.heap.size w wr ∧ w.heap.size + 1 ≤ wr.heap.size ∧ Free (w.heap.size + 1) wr.heap.size wr) (fun i _ => n - (intOf i).toNat)
  case atStart => exact ⟨0, _, Nat.zero_le _, rfl, h0.out, fun j hj => by omega, (Below.refl _ _).alloc (Nat.le_refl _) _, by simp, by rw [World.size_alloc]; exact Free.nil _ _⟩
  case round =>
    obtain ⟨k, V, hk, rfl, hrow, hkids, hbel, hsz, hfr⟩ := hrel
    have HFr : Hid (Free (w.heap.size + 1) wr.heap.size wr) := hfr
    clear hfr
    have HB : Hid (Below w.heap.size w wr) := hbel
    have HRow : Hid (wr.rowIs w.heap.size 28 n (partV (.slice none 0 0) V k)) := hrow
    have HKids : Hid (∀ j, j < k → SlB (w.heap.size + 1) wr.heap.size wr (V j) (xs.getD j [])) := hkids
    by_cases hlt : k < n
    · have hR := HR0.out.below hbel hhi
      rcases hR.cells with hz | ⟨b, off, e1, _, hbhi, hc⟩
      · omega
      · subst e1
        obtain ⟨v, c0, ea, en, ec, rfl, hr0⟩ := hc k hlt
        have hr : Hid (Rd lo hi wr ea en ec (xs.getD k [])) := hr0
        have hki : (k : Int) < (n : Int) := by omega
        have HLn : Hid (∀ i, i < n → en ≤ 1048576) := by intro i hi; have := HLn0.out k hlt; rw [hr0.len] at this; exact this
        clear hR hc hr0 hrow hkids hbel
        go_wp2_with fail
        refine (toByteS_one ea en ec (xs.getD k []) wr hr.out (Nat.le_trans hhi HB.out.size) (HLn.out k hlt)).mono ?_
        rintro e w' ⟨rfl, hrow', hb', hs'⟩
        have HNew : Hid (SlB wr.heap.size w'.heap.size w' (.slice (some ⟨wr.heap.size, 0, none⟩) en en) (xs.getD k [])) := ⟨_, _, _, rfl, hrow'.rd hr.out.len hr.out.byte (by have := HLn.out k hlt; omega) (Nat.le_refl _) hrow'.lt⟩
        have hfr2 : Free (w.heap.size + 1) w'.heap.size w' := HFr.out.next hb' (free_row hrow' hs')
        have hrow2 : w'.rowIs w.heap.size 28 n (partV (.slice none 0 0) V k) := rowIs_block HRow.out (hb'.block _ (rowIs_lt HRow.out))
        have hfz := hrow2.frozen k
        have hold : w'.cell? ⟨w.heap.size, k, none⟩ = some (.slice none 0 0) := by have := hrow2.cell hlt; simpa [partV] using this
        obtain ⟨U, hU⟩ : ∃ U, U = w'.setCell ⟨w.heap.size, k, none⟩ (.slice (some ⟨wr.heap.size, 0, none⟩) en en) := ⟨_, rfl⟩
        have HU : Hid (U = w'.setCell ⟨w.heap.size, k, none⟩ (.slice (some ⟨wr.heap.size, 0, none⟩) en en)) := hU
        have hsU : U.heap.size = w'.heap.size := by rw [hU]; simp
        have hsm : Same (w.heap.size + 1) w'.heap.size w' U := by rw [hU]; exact fun b h1 _ => Below.heap_setCell w' ⟨w.heap.size, k, none⟩ _ b (by show b ≠ w.heap.size; omega)
        have HR2 : Hid (U.rowIs w.heap.size 28 n (partV (.slice none 0 0) (fun i => if i = k then .slice (some ⟨wr.heap.size, 0, none⟩) en en else V i) (k + 1))) := by unfold Hid; rw [hU]; exact partV_step _ hrow2
        have HFr2 : Hid (Free (w.heap.size + 1) U.heap.size U) := by unfold Hid; rw [hsU, hU]; exact hfr2.set _ _
        clear hfr2
        have HB2 : Hid (Below w.heap.size w U) := by unfold Hid; rw [hU]; exact (HB.out.trans (hb'.mono HB.out.size)).setCell (Nat.le_refl _) _
        have HK2 : Hid (∀ j, j < k + 1 → SlB (w.heap.size + 1) U.heap.size U (if j = k then .slice (some ⟨wr.heap.size, 0, none⟩) en en else V j) (xs.getD j [])) := by
          intro j hj
          rw [hsU]
          by_cases e : j = k
          · subst e
            rw [if_pos rfl]
            exact (HNew.out.mono (by omega) (Nat.le_refl _)).same hsm
          · rw [if_neg e]
            exact (((HKids.out j (by omega)).same (Same.of_below hb' (Nat.le_refl _))).mono (Nat.le_refl _) hb'.size).same hsm
        have hsz2 : w.heap.size + 1 ≤ U.heap.size := by have := hb'.size; omega
        clear hrow' hb' hrow2 hsm hU
        go_wp2_with fail
        rw [← HU.out]
        go_roundw
        case rel => exact ⟨k + 1, _, by omega, by go_num, HR2.out, HK2.out, HB2.out, hsz2, HFr2.out⟩
        case measure => simp [intOf]; omega
    · have hkn : k = n := by omega
      have HRd : Hid (RSS w.heap.size wr.heap.size wr (some ⟨w.heap.size, 0, none⟩) n n xs) := by
        refine ⟨HL.out, ⟨Nat.le_refl _, by omega⟩, .inr ⟨w.heap.size, 0, rfl, Nat.le_refl _, by omega, fun i hi => ⟨V i, ?_, (HKids.out i (by omega)).mono (by omega) (Nat.le_refl _)⟩⟩⟩
        have := HRow.out.cell hi
        rw [Nat.zero_add, this]
        simp [partV, hkn, hi]
      have HFz : Hid (Free w.heap.size wr.heap.size wr) := fun b h1 h2 o => by
        by_cases e : b = w.heap.size
        · subst e; exact HRow.out.frozen o
        · exact HFr.out b (by omega) h2 o
      clear hrow hkids hbel hkn
      go_wp2_with fail
      go_ret
      exact ⟨rfl, HRd.out, HB.out, HFz.out⟩

end Go.Proofs.YtknainelonaigaaGreatDoor
