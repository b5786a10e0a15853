/- The laws' own copy of the lists of a world. -/
import Derived.Test.YtpedjcabapldgaaDoorWdLaw1
namespace Go.Proofs.YtpedjcabapldgaaDoor
open Go.RowKit

def partV (z : Value) (f : Nat → Value) (k i : Nat) : Value := if i < k then f i else z

theorem partV_zero (z : Value) (f : Nat → Value) (i : Nat) : partV z f 0 i = z := if_neg (Nat.not_lt_zero _)

theorem partV_step {w : World} {g t n : Nat} {z : Value} {f : Nat → Value} {k : Nat} (v : Value) (h : w.rowIs g t n (partV z f k)) : (w.setCell ⟨g, k, none⟩ v).rowIs g t n (partV z (fun i => if i = k then v else f i) (k + 1)) := by
  refine (h.set k _).congr fun i _ => ?_
  unfold partV
  by_cases e : i = k
  · subst e; simp
  · rw [if_neg e]
    by_cases h1 : i < k
    · rw [if_pos h1, if_pos (by omega)]; show f i = if i = k then v else f i; rw [if_neg e]
    · rw [if_neg h1, if_neg (by omega)]

theorem rowIs_block {w w' : World} {g t n : Nat} {f : Nat → Value} (h : w.rowIs g t n f) (e : w'.heap[g]? = w.heap[g]?) : w'.rowIs g t n f := by
  obtain ⟨c, h1, h2⟩ := h
  exact ⟨c, e.trans h1, h2⟩

theorem rowIs_lt {w : World} {g t n : Nat} {f : Nat → Value} (h : w.rowIs g t n f) : g < w.heap.size := by
  obtain ⟨c, h1, _⟩ := h
  exact (Array.getElem?_eq_some_iff.1 h1).1

theorem Tryd.info4w : (Tryd.prog.info? 4).map (fun i => (i.zero, i.size, i.bytes)) = some (some (.bool false), 1, 1) := by kernel_rfl

theorem Tryd.info3w : (Tryd.prog.info? 3).map (fun i => (i.zero, i.size, i.bytes)) = some (some (.int .i64 0), 1, 8) := by kernel_rfl

theorem Tryd.infotoByteSS : (Tryd.prog.info? 27).map (fun i => (i.zero, i.size, i.bytes)) = some (some (.slice none 0 0), 1, 24) := by kernel_rfl

set_option maxHeartbeats 1600000 in
theorem toByteSS_any (a : Option Addr) (n cap : Nat) (xs : List (List Int)) (w : World) {lo hi : Nat} (h : RSS lo hi w a n cap xs) (hhi : hi ≤ w.heap.size) (hn : n ≤ 1048576) (hln : ∀ i, i < n → (xs.getD i []).length ≤ 1048576) :
    Calls Tryd.prog 28 #[.slice a n cap] w fun e w' => e = .returned (.slice (some ⟨w.heap.size, 0, none⟩) n n) ∧ RSS w.heap.size w'.heap.size w' (some ⟨w.heap.size, 0, none⟩) n n xs ∧ Below w.heap.size w w' := by
  have HR0 : Hid (RSS lo hi w a n cap xs) := h
  obtain ⟨hl, ⟨hm, _⟩, _⟩ := h
  have hmk := fun w : World => run_make_row' (P := Tryd.prog) 42 27 (.slice none 0 0) 24 Tryd.underlying42 Tryd.infotoByteSS rfl .i64 .i64 n (by omega) (by omega) w
  have HL : Hid (xs.length = n) := hl
  have h0 : Hid ((w.alloc (.cells (madeCells #[(.slice none 0 0)] n) 27)).rowIs w.heap.size 27 n (partV (.slice none 0 0) (fun _ => (.slice none 0 0)) 0)) := (World.rowIs_made w (.slice none 0 0) n 27).congr (fun i _ => by simp [partV])
  have HLn0 : Hid (∀ i, i < n → (xs.getD i []).length ≤ 1048576) := hln
  clear hl hln
  go_enter Tryd.func28, Tryd.ntmps28
  go_wp2_with fail
  go_loopw [4] (fun i wr => ∃ (k : Nat) (V : Nat → Value), k ≤ n ∧ i = .int .i64 k ∧ wr.rowIs w.heap.size 27 n (partV (.slice none 0 0) V k) ∧ (∀ j, j < k → SlB (w.heap.size + 1) wr.heap.size wr (V j) (xs.getD j [])) ∧ Below w.heap.size w wr ∧ w.heap.size + 1 ≤ wr.heap.size) (fun i _ => n - (intOf i).toNat)
  case atStart => exact ⟨0, _, Nat.zero_le _, rfl, h0.out, fun j hj => by omega, (Below.refl _ _).alloc (Nat.le_refl _) _, by simp⟩
  case round =>
    obtain ⟨k, V, hk, rfl, hrow, hkids, hbel, hsz⟩ := hrel
    have HB : Hid (Below w.heap.size w wr) := hbel
    have HRow : Hid (wr.rowIs w.heap.size 27 n (partV (.slice none 0 0) V k)) := hrow
    have HKids : Hid (∀ j, j < k → SlB (w.heap.size + 1) wr.heap.size wr (V j) (xs.getD j [])) := hkids
    by_cases hlt : k < n
    · have hR := HR0.out.below hbel hhi
      rcases hR.cells with hz | ⟨b, off, e1, _, hbhi, hc⟩
      · omega
      · subst e1
        obtain ⟨v, c0, ea, en, ec, rfl, hr0⟩ := hc k hlt
        have hr : Hid (Rd lo hi wr ea en ec (xs.getD k [])) := hr0
        have hki : (k : Int) < (n : Int) := by omega
        have HLn : Hid (∀ i, i < n → en ≤ 1048576) := by intro i hi; have := HLn0.out k hlt; rw [hr0.len] at this; exact this
        clear hR hc hr0 hrow hkids hbel
        go_wp2_with fail
        refine (toByteS_one ea en ec (xs.getD k []) wr hr.out (Nat.le_trans hhi HB.out.size) (HLn.out k hlt)).mono ?_
        rintro e w' ⟨rfl, hrow', hb', hs'⟩
        have HNew : Hid (SlB wr.heap.size w'.heap.size w' (.slice (some ⟨wr.heap.size, 0, none⟩) en en) (xs.getD k [])) := ⟨_, _, _, rfl, hrow'.rd hr.out.len hr.out.byte (by have := HLn.out k hlt; omega) (Nat.le_refl _) hrow'.lt⟩
        have hrow2 : w'.rowIs w.heap.size 27 n (partV (.slice none 0 0) V k) := rowIs_block HRow.out (hb'.block _ (rowIs_lt HRow.out))
        have hfz := hrow2.frozen k
        have hold : w'.cell? ⟨w.heap.size, k, none⟩ = some (.slice none 0 0) := by have := hrow2.cell hlt; simpa [partV] using this
        obtain ⟨U, hU⟩ : ∃ U, U = w'.setCell ⟨w.heap.size, k, none⟩ (.slice (some ⟨wr.heap.size, 0, none⟩) en en) := ⟨_, rfl⟩
        have HU : Hid (U = w'.setCell ⟨w.heap.size, k, none⟩ (.slice (some ⟨wr.heap.size, 0, none⟩) en en)) := hU
        have hsU : U.heap.size = w'.heap.size := by rw [hU]; simp
        have hsm : Same (w.heap.size + 1) w'.heap.size w' U := by rw [hU]; exact fun b h1 _ => Below.heap_setCell w' ⟨w.heap.size, k, none⟩ _ b (by show b ≠ w.heap.size; omega)
        have HR2 : Hid (U.rowIs w.heap.size 27 n (partV (.slice none 0 0) (fun i => if i = k then .slice (some ⟨wr.heap.size, 0, none⟩) en en else V i) (k + 1))) := by unfold Hid; rw [hU]; exact partV_step _ hrow2
        have HB2 : Hid (Below w.heap.size w U) := by unfold Hid; rw [hU]; exact (HB.out.trans (hb'.mono HB.out.size)).setCell (Nat.le_refl _) _
        have HK2 : Hid (∀ j, j < k + 1 → SlB (w.heap.size + 1) U.heap.size U (if j = k then .slice (some ⟨wr.heap.size, 0, none⟩) en en else V j) (xs.getD j [])) := by
          intro j hj
          rw [hsU]
          by_cases e : j = k
          · subst e
            rw [if_pos rfl]
            exact (HNew.out.mono (by omega) (Nat.le_refl _)).same hsm
          · rw [if_neg e]
            exact (((HKids.out j (by omega)).same (Same.of_below hb' (Nat.le_refl _))).mono (Nat.le_refl _) hb'.size).same hsm
        have hsz2 : w.heap.size + 1 ≤ U.heap.size := by have := hb'.size; omega
        clear hrow' hb' hrow2 hsm hU
        go_wp2_with fail
        rw [← HU.out]
        go_roundw
        case rel => exact ⟨k + 1, _, by omega, by go_num, HR2.out, HK2.out, HB2.out, hsz2⟩
        case measure => simp [intOf]; omega
    · have hkn : k = n := by omega
      have HRd : Hid (RSS w.heap.size wr.heap.size wr (some ⟨w.heap.size, 0, none⟩) n n xs) := by
        refine ⟨HL.out, ⟨Nat.le_refl _, by omega⟩, .inr ⟨w.heap.size, 0, rfl, Nat.le_refl _, by omega, fun i hi => ⟨V i, ?_, (HKids.out i (by omega)).mono (by omega) (Nat.le_refl _)⟩⟩⟩
        have := HRow.out.cell hi
        rw [Nat.zero_add, this]
        simp [partV, hkn, hi]
      clear hrow hkids hbel hkn
      go_wp2_with fail
      go_ret
      exact ⟨rfl, HRd.out, HB.out⟩

end Go.Proofs.YtpedjcabapldgaaDoor
