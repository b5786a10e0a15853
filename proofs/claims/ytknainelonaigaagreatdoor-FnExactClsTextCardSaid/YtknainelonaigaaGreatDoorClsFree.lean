/- Copies of clauses and of what is told as clauses, anew: what they made may be written. -/
import Derived.Test.YtknainelonaigaaGreatDoorNLaw
import Derived.Test.YtknainelonaigaaGreatDoorWdFree
namespace Go.Proofs.YtknainelonaigaaGreatDoor
open Go.RowKit

theorem free_al {lo : Nat} {w : World} (h : Free lo w.heap.size w) (c : Array Value) (t : TypeId) : Free lo (w.alloc (.cells c t)).heap.size (w.alloc (.cells c t)) := by
  rw [World.size_alloc]; exact h.alloc c t

theorem toPart_fr (p n : Int) (w : World) :
    Calls Tryz.prog 69 #[.agg #[.int .i64 p, .int .i64 n]] w fun e w' => e = .returned (.agg #[.int .i64 p, .int .i64 n]) ∧ Below w.heap.size w w' ∧ Free w.heap.size w'.heap.size w' := by
  have HB0 : Hid (Below w.heap.size w (((w.alloc (.cells #[.int .i64 p, .int .i64 n] 67)).alloc (.cells #[.int .i64 p, .int .i64 n] 50)).alloc (.cells #[.int .i64 p, .int .i64 n] 50))) :=
    (((Below.refl _ _).alloc (Nat.le_refl _) _).alloc (by simp) _).alloc (by simp; omega) _
  have HFr : Hid (Free w.heap.size (((w.alloc (.cells #[.int .i64 p, .int .i64 n] 67)).alloc (.cells #[.int .i64 p, .int .i64 n] 50)).alloc (.cells #[.int .i64 p, .int .i64 n] 50)).heap.size (((w.alloc (.cells #[.int .i64 p, .int .i64 n] 67)).alloc (.cells #[.int .i64 p, .int .i64 n] 50)).alloc (.cells #[.int .i64 p, .int .i64 n] 50))) := free_al (free_al (free_al (Free.nil _ _) _ _) _ _) _ _
  go_enter Tryz.func69, Tryz.ntmps69
  go_wp2
  refine bodyPost_ret (v := .agg #[.int .i64 p, .int .i64 n]) (by simp [results, Tryz.results69, go_sem]) rfl ⟨rfl, HB0.out, HFr.out⟩

set_option maxHeartbeats 800000 in
theorem toPartS_fr {a : Option Addr} {n cap : Nat} {xs : List (Int × Int)} {w : World} {lo hi : Nat} (h : RP lo hi w a n cap xs) (hhi : hi ≤ w.heap.size) (hn1 : n ≤ 1048576) :
    Calls Tryz.prog 70 #[.slice a n cap] w fun e w' => e = .returned (.slice (some ⟨w.heap.size, 0, none⟩) n n) ∧ w'.rowIs w.heap.size 50 (n * 2) (cellP xs n) ∧ Below w.heap.size w w' ∧ Free w.heap.size w'.heap.size w' := by
  have H : Hid (RP lo hi w a n cap xs) := h
  obtain ⟨hl, ⟨hm, hM⟩, hcs⟩ := h
  clear hcs
  have hmk : ∀ w : World, (Instr.makeSlice 51 (.int .i64 (n : Int)) (.int .i64 (n : Int))).run Tryz.prog w = .ok (.slice (some ⟨w.heap.size, 0, none⟩) n n) (w.alloc (.cells (madeCells #[.int .i64 0, .int .i64 0] (n * 2)) 50)) := by
    intro w
    obtain ⟨i0, hi0, hz0, hz1, hz2⟩ := info_parts Tryz.infoPart
    have hr := run_make (P := Tryz.prog) w 51 50 i0 _ Tryz.underlying51 hi0 hz0 .i64 .i64 n n (by omega) (Int.le_refl _) (by rw [hz2]; omega) (by omega)
    simp only [Int.toNat_natCast, hz1] at hr
    exact hr
  have HL : Hid (xs.length = n) := hl
  have h0 : Hid ((w.alloc (.cells (madeCells #[.int .i64 0, .int .i64 0] (n * 2)) 50)).rowIs w.heap.size 50 (n * 2) (cellP xs 0)) := rowP_made w xs n
  clear hl
  go_enter Tryz.func70, Tryz.ntmps70
  go_wp2
  go_loopw [4] (fun i wr => ∃ k : Nat, k ≤ n ∧ i = .int .i64 k ∧ wr.rowIs w.heap.size 50 (n * 2) (cellP xs k) ∧ Below w.heap.size w wr ∧ Free w.heap.size wr.heap.size wr) (fun i _ => n - (intOf i).toNat)
  case atStart => exact ⟨0, Nat.zero_le _, rfl, h0.out, (Below.refl _ _).alloc (Nat.le_refl _) _, free_al (Free.nil _ _) _ _⟩
  case round =>
    obtain ⟨k, hk, rfl, hrow, hbel, hfr⟩ := hrel
    have HFr : Hid (Free w.heap.size wr.heap.size wr) := hfr
    clear hfr
    have HB : Hid (Below w.heap.size w wr) := hbel
    have HRow : Hid (wr.rowIs w.heap.size 50 (n * 2) (cellP xs k)) := hrow
    by_cases hlt : k < n
    · have hR := H.out.below hbel hhi
      rcases hR.cells with h0 | ⟨b, off, e1, _, hbh, hc⟩
      · omega
      · subst e1
        obtain ⟨c1, c2⟩ := hc k hlt
        obtain ⟨t, ht⟩ : ∃ t, t = xs.getD k (0, 0) := ⟨_, rfl⟩
        have HT : Hid (t = xs.getD k (0, 0)) := ht
        rw [← ht] at c1 c2
        obtain ⟨tp, tn⟩ := t
        have hki : (k : Int) < (n : Int) := by omega
        have hlw := hrow.lt
        clear hR hc ht hbel hrow
        go_wp2_with fail
        refine (toPart_fr tp tn _).mono ?_
        rintro e w1 ⟨rfl, hb1, hf1⟩
        have HFr1 : Hid (Free w.heap.size ((w1.setCell ⟨w.heap.size, k * 2, none⟩ (.int .i64 tp)).setCell ⟨w.heap.size, k * 2 + 1, none⟩ (.int .i64 tn)).heap.size ((w1.setCell ⟨w.heap.size, k * 2, none⟩ (.int .i64 tp)).setCell ⟨w.heap.size, k * 2 + 1, none⟩ (.int .i64 tn))) := by
          unfold Hid
          have := ((HFr.out.next hb1 hf1).set ⟨w.heap.size, k * 2, none⟩ (.int .i64 tp)).set ⟨w.heap.size, k * 2 + 1, none⟩ (.int .i64 tn)
          simpa using this
        clear hf1
        have hrow1 : w1.rowIs w.heap.size 50 (n * 2) (cellP xs k) := HRow.out.of_block (hb1.block _ hlw)
        obtain ⟨o0, o1⟩ := cellP_old xs (Nat.le_refl k)
        have d0 : w1.cell? ⟨w.heap.size, k * 2, none⟩ = some (.int .i64 0) := by rw [hrow1.cell (show k * 2 < n * 2 by omega), o0]
        have d1 : w1.cell? ⟨w.heap.size, k * 2 + 1, none⟩ = some (.int .i64 0) := by rw [hrow1.cell (show k * 2 + 1 < n * 2 by omega), o1]
        have f0 := hrow1.frozen (k * 2)
        have f1 := hrow1.frozen (k * 2 + 1)
        have HRow1 : Hid (((w1.setCell ⟨w.heap.size, k * 2, none⟩ (.int .i64 tp)).setCell ⟨w.heap.size, k * 2 + 1, none⟩ (.int .i64 tn)).rowIs w.heap.size 50 (n * 2) (cellP xs (k + 1))) := rowP_step (by rw [← HT.out]) (by rw [← HT.out]) hrow1
        have HB1 : Hid (Below w.heap.size w ((w1.setCell ⟨w.heap.size, k * 2, none⟩ (.int .i64 tp)).setCell ⟨w.heap.size, k * 2 + 1, none⟩ (.int .i64 tn))) := ((HB.out.trans (hb1.mono HB.out.size)).setCell (Nat.le_refl _) _).setCell (Nat.le_refl _) _
        clear hrow1 hb1
        go_wp2
        go_roundw
        case rel => exact ⟨k + 1, by omega, by go_num, HRow1.out, HB1.out, HFr1.out⟩
        case measure => simp [intOf]; omega
    · have hkn : k = n := by omega
      have HE : Hid (wr.rowIs w.heap.size 50 (n * 2) (cellP xs n)) := by subst hkn; exact hrow
      clear hkn hrow hbel
      go_wp2
      go_ret
      exact ⟨rfl, HE.out, HB.out, HFr.out⟩

set_option maxRecDepth 100000 in
set_option maxHeartbeats 4000000 in
theorem toK_fr {k f r u xp xn yp yn : Int} {ia : Option Addr} {im ic : Nat} {a b : Int} {xs : List (Int × Int)} {w : World} {lo hi : Nat} (h : RP lo hi w ia im ic xs) (hhi : hi ≤ w.heap.size) (him : im ≤ 1048576) :
    Calls Tryz.prog 45 #[.agg #[.int .i64 k, .int .i64 f, .int .i64 r, .int .i64 u, .int .i64 xp, .int .i64 xn, .int .i64 yp, .int .i64 yn, .slice ia im ic, .int .i64 a, .int .i64 b]] w fun e w' => ∃ g, e = .returned (.agg #[.int .i64 k, .int .i64 f, .int .i64 r, .int .i64 u, .int .i64 xp, .int .i64 xn, .int .i64 yp, .int .i64 yn, .slice (some ⟨g, 0, none⟩) im im, .int .i64 a, .int .i64 b]) ∧
      RP w.heap.size w'.heap.size w' (some ⟨g, 0, none⟩) im im xs ∧ w'.rowIs g 50 (im * 2) (cellP xs im) ∧ Below w.heap.size w w' ∧ Free w.heap.size w'.heap.size w' := by
  obtain ⟨W1, hW1⟩ : ∃ W1, W1 = ((w.alloc (.cells #[.int .i64 k, .int .i64 f, .int .i64 r, .int .i64 u, .int .i64 xp, .int .i64 xn, .int .i64 yp, .int .i64 yn, .slice ia im ic, .int .i64 a, .int .i64 b] 70)).alloc (.cells #[.int .i64 0, .int .i64 0, .int .i64 0, .int .i64 0, .int .i64 0, .int .i64 0, .int .i64 0, .int .i64 0, .slice none 0 0, .int .i64 0, .int .i64 0] 53)).alloc (.cells #[.int .i64 k, .int .i64 f, .int .i64 r, .int .i64 u, .int .i64 0, .int .i64 0, .int .i64 0, .int .i64 0, .slice none 0 0, .int .i64 0, .int .i64 0] 53) := ⟨_, rfl⟩
  have HW1 : Hid (W1 = ((w.alloc (.cells #[.int .i64 k, .int .i64 f, .int .i64 r, .int .i64 u, .int .i64 xp, .int .i64 xn, .int .i64 yp, .int .i64 yn, .slice ia im ic, .int .i64 a, .int .i64 b] 70)).alloc (.cells #[.int .i64 0, .int .i64 0, .int .i64 0, .int .i64 0, .int .i64 0, .int .i64 0, .int .i64 0, .int .i64 0, .slice none 0 0, .int .i64 0, .int .i64 0] 53)).alloc (.cells #[.int .i64 k, .int .i64 f, .int .i64 r, .int .i64 u, .int .i64 0, .int .i64 0, .int .i64 0, .int .i64 0, .slice none 0 0, .int .i64 0, .int .i64 0] 53)) := hW1
  have hs1 : W1.heap.size = w.heap.size + 3 := by rw [hW1]; simp
  have hb0 : Below w.heap.size w W1 := by rw [hW1]; exact (((Below.refl _ _).alloc (Nat.le_refl _) _).alloc (by simp) _).alloc (by simp; omega) _
  have HB0 : Hid (Below w.heap.size w W1) := hb0
  have hlx : BoxK 70 W1 w.heap.size k f r u xp xn yp yn (.slice ia im ic) a b := by rw [hW1]; exact ((BoxK.new _ w _ _ _ _ _ _ _ _ _ _ _).below ((Below.refl _ _).alloc (Nat.le_refl _) _) (by simp)).below ((Below.refl _ _).alloc (Nat.le_refl _) _) (by simp; omega)
  have hrx : BoxK 53 W1 (w.heap.size + 1) 0 0 0 0 0 0 0 0 (.slice none 0 0) 0 0 := by
    have e := BoxK.new 53 (w.alloc (.cells #[.int .i64 k, .int .i64 f, .int .i64 r, .int .i64 u, .int .i64 xp, .int .i64 xn, .int .i64 yp, .int .i64 yn, .slice ia im ic, .int .i64 a, .int .i64 b] 70)) 0 0 0 0 0 0 0 0 (.slice none 0 0) 0 0
    rw [World.size_alloc] at e
    rw [hW1]; exact e.below ((Below.refl _ _).alloc (Nat.le_refl _) _) (by simp)
  have hox : BoxK 53 W1 (w.heap.size + 1 + 1) k f r u 0 0 0 0 (.slice none 0 0) 0 0 := by
    have e := BoxK.new 53 ((w.alloc (.cells #[.int .i64 k, .int .i64 f, .int .i64 r, .int .i64 u, .int .i64 xp, .int .i64 xn, .int .i64 yp, .int .i64 yn, .slice ia im ic, .int .i64 a, .int .i64 b] 70)).alloc (.cells #[.int .i64 0, .int .i64 0, .int .i64 0, .int .i64 0, .int .i64 0, .int .i64 0, .int .i64 0, .int .i64 0, .slice none 0 0, .int .i64 0, .int .i64 0] 53)) k f r u 0 0 0 0 (.slice none 0 0) 0 0
    rw [World.size_alloc, World.size_alloc] at e
    rw [hW1]; exact e
  have HLx : Hid (∀ W, Below (w.heap.size + 2) W1 W → BoxK 70 W w.heap.size k f r u xp xn yp yn (.slice ia im ic) a b) := fun W hW => hlx.below hW (by omega)
  have HRx : Hid (∀ W, Below (w.heap.size + 2) W1 W → BoxK 53 W (w.heap.size + 1) 0 0 0 0 0 0 0 0 (.slice none 0 0) 0 0) := fun W hW => hrx.below hW (by omega)
  have HOx : Hid (BoxK 53 W1 (w.heap.size + 1 + 1) k f r u 0 0 0 0 (.slice none 0 0) 0 0) := hox
  have HRP : Hid (∀ W, Below (w.heap.size + 2) W1 W → RP lo hi W ia im ic xs ∧ hi ≤ W.heap.size) := fun W hW => ⟨(h.below hb0 hhi).below hW (by omega), Nat.le_trans hhi (Nat.le_trans hb0.size hW.size)⟩
  have HS1 : Hid (W1.heap.size = w.heap.size + 3) := hs1
  have HLen : Hid (xs.length = im) := h.len
  obtain ⟨z0, z1, z2, z3, z4, z5, z6, z7, z8, z9, z10⟩ := hlx.cells
  obtain ⟨o0, o1, o2, o3, o4, o5, o6, o7, o8, o9, o10⟩ := hox.cells
  clear hW1 hb0 hlx hrx hox h hs1
  go_enter Tryz.func45, Tryz.ntmps45
  go_upto_region 6 with fail
  rw [← HW1.out]
  go_wp2_with fail
  refine (toPart_fr xp xn W1).mono ?_
  rintro e w2 ⟨rfl, hb2, hf2⟩
  have H2 : Hid (Below (w.heap.size + 2) W1 w2) := hb2.mono (by have := HS1.out; omega)
  have hox2 := HOx.out.below hb2 (by have := HS1.out; omega)
  clear o0 o1 o2 o3 o4 o5 o6 o7 o8 o9 o10 z0 z1 z2 z3 z4 z5 z6 z7 z8 z9 z10
  obtain ⟨o0, o1, o2, o3, o4, o5, o6, o7, o8, o9, o10⟩ := hox2.cells
  have g4 := hox2.frz 4
  have g5 := hox2.frz 5
  obtain ⟨U2, hU2⟩ : ∃ U, U = (w2.setCell ⟨w.heap.size + 1 + 1, 4, none⟩ (.int .i64 xp)).setCell ⟨w.heap.size + 1 + 1, 5, none⟩ (.int .i64 xn) := ⟨_, rfl⟩
  have HU2 : Hid (U2 = (w2.setCell ⟨w.heap.size + 1 + 1, 4, none⟩ (.int .i64 xp)).setCell ⟨w.heap.size + 1 + 1, 5, none⟩ (.int .i64 xn)) := hU2
  have HOx2 : Hid (BoxK 53 U2 (w.heap.size + 1 + 1) k f r u xp xn 0 0 (.slice none 0 0) 0 0) := by
    unfold Hid
    rw [hU2]
    have e : BoxK 53 (w2.setCell ⟨w.heap.size + 1 + 1, 4, none⟩ (.int .i64 xp)) (w.heap.size + 1 + 1) k f r u xp 0 0 0 (.slice none 0 0) 0 0 := hox2.at 4 _
    exact e.at 5 _
  have HBU2 : Hid (Below (w.heap.size + 2) W1 U2) := by unfold Hid; rw [hU2]; exact (H2.out.setCell (by show w.heap.size + 2 ≤ w.heap.size + 1 + 1; omega) _).setCell (by show w.heap.size + 2 ≤ w.heap.size + 1 + 1; omega) _
  obtain ⟨z0, z1, z2, z3, z4, z5, z6, z7, z8, z9, z10⟩ := (HLx.out _ H2.out).cells
  have HFr2 : Hid (Free W1.heap.size U2.heap.size U2) := by
    unfold Hid; rw [hU2]
    have := ((Free.next (w := W1) (Free.nil _ _) hb2 hf2).set ⟨w.heap.size + 1 + 1, 4, none⟩ (.int .i64 xp)).set ⟨w.heap.size + 1 + 1, 5, none⟩ (.int .i64 xn)
    simpa using this
  clear hb2 hox2 hU2 hf2
  go_upto_region 7 with fail
  rw [← HU2.out]
  clear o0 o1 o2 o3 o4 o5 o6 o7 o8 o9 o10 z0 z1 z2 z3 z4 z5 z6 z7 z8 z9 z10
  obtain ⟨z0, z1, z2, z3, z4, z5, z6, z7, z8, z9, z10⟩ := (HLx.out _ HBU2.out).cells
  go_wp2_with fail
  refine (toPart_fr yp yn U2).mono ?_
  rintro e w3 ⟨rfl, hb3, hf3⟩
  have hsz : w.heap.size + 3 ≤ U2.heap.size := by have := HBU2.out.size; have := HS1.out; omega
  have H3 : Hid (Below (w.heap.size + 2) W1 w3) := HBU2.out.trans (hb3.mono (by omega))
  have hox3 := HOx2.out.below hb3 (by omega)
  clear z0 z1 z2 z3 z4 z5 z6 z7 z8 z9 z10
  obtain ⟨o0, o1, o2, o3, o4, o5, o6, o7, o8, o9, o10⟩ := hox3.cells
  have g6 := hox3.frz 6
  have g7 := hox3.frz 7
  obtain ⟨U3, hU3⟩ : ∃ U, U = (w3.setCell ⟨w.heap.size + 1 + 1, 6, none⟩ (.int .i64 yp)).setCell ⟨w.heap.size + 1 + 1, 7, none⟩ (.int .i64 yn) := ⟨_, rfl⟩
  have HU3 : Hid (U3 = (w3.setCell ⟨w.heap.size + 1 + 1, 6, none⟩ (.int .i64 yp)).setCell ⟨w.heap.size + 1 + 1, 7, none⟩ (.int .i64 yn)) := hU3
  have HOx3 : Hid (BoxK 53 U3 (w.heap.size + 1 + 1) k f r u xp xn yp yn (.slice none 0 0) 0 0) := by
    unfold Hid
    rw [hU3]
    have e : BoxK 53 (w3.setCell ⟨w.heap.size + 1 + 1, 6, none⟩ (.int .i64 yp)) (w.heap.size + 1 + 1) k f r u xp xn yp 0 (.slice none 0 0) 0 0 := hox3.at 6 _
    exact e.at 7 _
  have HBU3 : Hid (Below (w.heap.size + 2) W1 U3) := by unfold Hid; rw [hU3]; exact (H3.out.setCell (by show w.heap.size + 2 ≤ w.heap.size + 1 + 1; omega) _).setCell (by show w.heap.size + 2 ≤ w.heap.size + 1 + 1; omega) _
  have hsU3 : U3.heap.size = w3.heap.size := by rw [hU3]; simp
  have hsz3 : w.heap.size + 3 ≤ U3.heap.size := by have := hb3.size; omega
  obtain ⟨z0, z1, z2, z3, z4, z5, z6, z7, z8, z9, z10⟩ := (HLx.out _ H3.out).cells
  have HFr3 : Hid (Free W1.heap.size U3.heap.size U3) := by
    unfold Hid; rw [hU3]
    have := ((Free.next (w := U2) HFr2.out hb3 hf3).set ⟨w.heap.size + 1 + 1, 6, none⟩ (.int .i64 yp)).set ⟨w.heap.size + 1 + 1, 7, none⟩ (.int .i64 yn)
    simpa using this
  clear hb3 hox3 hU3 hsU3 hf3
  go_upto_region 8 with fail
  rw [← HU3.out]
  clear o0 o1 o2 o3 o4 o5 o6 o7 o8 o9 o10 z0 z1 z2 z3 z4 z5 z6 z7 z8 z9 z10
  obtain ⟨z0, z1, z2, z3, z4, z5, z6, z7, z8, z9, z10⟩ := (HLx.out _ HBU3.out).cells
  go_wp2_with fail
  refine (toPartS_fr (HRP.out _ HBU3.out).1 (HRP.out _ HBU3.out).2 him).mono ?_
  rintro e w4 ⟨rfl, hrow, hb4, hf4⟩
  have HFr4 : Hid (Free W1.heap.size w4.heap.size w4) := Free.next (w := U3) HFr3.out hb4 hf4
  clear hf4
  obtain ⟨g, hg⟩ : ∃ g, g = U3.heap.size := ⟨_, rfl⟩
  rw [← hg] at hrow
  rw [← hg]
  have hgs : w.heap.size + 3 ≤ g := by omega
  have hglt := hrow.lt
  have H4 : Hid (Below (w.heap.size + 2) W1 w4) := HBU3.out.trans (hb4.mono (by omega))
  have hox4 := HOx3.out.below hb4 (by omega)
  clear z0 z1 z2 z3 z4 z5 z6 z7 z8 z9 z10
  obtain ⟨o0, o1, o2, o3, o4, o5, o6, o7, o8, o9, o10⟩ := hox4.cells
  have g8 := hox4.frz 8
  have g9 := hox4.frz 9
  have g10 := hox4.frz 10
  obtain ⟨z0, z1, z2, z3, z4, z5, z6, z7, z8, z9, z10⟩ := (HLx.out _ H4.out).cells
  have HRow : Hid (w4.rowIs g 50 (im * 2) (cellP xs im)) := hrow
  clear hrow hb4 hg
  obtain ⟨U4, hU4⟩ : ∃ U, U = ((w4.setCell ⟨w.heap.size + 1 + 1, 8, none⟩ (.slice (some ⟨g, 0, none⟩) im im)).setCell ⟨w.heap.size + 1 + 1, 9, none⟩ (.int .i64 a)).setCell ⟨w.heap.size + 1 + 1, 10, none⟩ (.int .i64 b) := ⟨_, rfl⟩
  have HU4 : Hid (U4 = ((w4.setCell ⟨w.heap.size + 1 + 1, 8, none⟩ (.slice (some ⟨g, 0, none⟩) im im)).setCell ⟨w.heap.size + 1 + 1, 9, none⟩ (.int .i64 a)).setCell ⟨w.heap.size + 1 + 1, 10, none⟩ (.int .i64 b)) := hU4
  have HOx4 : Hid (BoxK 53 U4 (w.heap.size + 1 + 1) k f r u xp xn yp yn (.slice (some ⟨g, 0, none⟩) im im) a b) := by
    unfold Hid
    rw [hU4]
    have e : BoxK 53 (w4.setCell ⟨w.heap.size + 1 + 1, 8, none⟩ (.slice (some ⟨g, 0, none⟩) im im)) (w.heap.size + 1 + 1) k f r u xp xn yp yn (.slice (some ⟨g, 0, none⟩) im im) 0 0 := hox4.at 8 _
    have e' : BoxK 53 ((w4.setCell ⟨w.heap.size + 1 + 1, 8, none⟩ (.slice (some ⟨g, 0, none⟩) im im)).setCell ⟨w.heap.size + 1 + 1, 9, none⟩ (.int .i64 a)) (w.heap.size + 1 + 1) k f r u xp xn yp yn (.slice (some ⟨g, 0, none⟩) im im) a 0 := e.at 9 _
    exact e'.at 10 _
  have HBU4 : Hid (Below (w.heap.size + 2) W1 U4) := by unfold Hid; rw [hU4]; exact ((H4.out.setCell (by show w.heap.size + 2 ≤ w.heap.size + 1 + 1; omega) _).setCell (by show w.heap.size + 2 ≤ w.heap.size + 1 + 1; omega) _).setCell (by show w.heap.size + 2 ≤ w.heap.size + 1 + 1; omega) _
  have HRow4 : Hid (U4.rowIs g 50 (im * 2) (cellP xs im)) := by
    unfold Hid
    rw [hU4]
    refine HRow.out.of_block ?_
    rw [Below.heap_setCell _ ⟨w.heap.size + 1 + 1, 10, none⟩ _ g (by show g ≠ w.heap.size + 1 + 1; omega), Below.heap_setCell _ ⟨w.heap.size + 1 + 1, 9, none⟩ _ g (by show g ≠ w.heap.size + 1 + 1; omega), Below.heap_setCell _ ⟨w.heap.size + 1 + 1, 8, none⟩ _ g (by show g ≠ w.heap.size + 1 + 1; omega)]
  have HFu4 : Hid (Free W1.heap.size U4.heap.size U4) := by
    unfold Hid; rw [hU4]
    have := ((HFr4.out.set ⟨w.heap.size + 1 + 1, 8, none⟩ (.slice (some ⟨g, 0, none⟩) im im)).set ⟨w.heap.size + 1 + 1, 9, none⟩ (.int .i64 a)).set ⟨w.heap.size + 1 + 1, 10, none⟩ (.int .i64 b)
    simpa using this
  clear hU4 hox4
  go_upto_region 11 with fail
  rw [← HU4.out]
  clear z0 z1 z2 z3 z4 z5 z6 z7 z8 z9 z10 o0 o1 o2 o3 o4 o5 o6 o7 o8 o9 o10 g8 g9 g10
  obtain ⟨o0, o1, o2, o3, o4, o5, o6, o7, o8, o9, o10⟩ := HOx4.out.cells
  have hrx4 := HRx.out _ HBU4.out
  obtain ⟨t0, t1, t2, t3, t4, t5, t6, t7, t8, t9, t10⟩ := hrx4.cells
  have tf0 := hrx4.frz 0
  have tf1 := hrx4.frz 1
  have tf2 := hrx4.frz 2
  have tf3 := hrx4.frz 3
  have tf4 := hrx4.frz 4
  have tf5 := hrx4.frz 5
  have tf6 := hrx4.frz 6
  have tf7 := hrx4.frz 7
  have tf8 := hrx4.frz 8
  have tf9 := hrx4.frz 9
  have tf10 := hrx4.frz 10
  obtain ⟨s0, s1, s2, s3, s4, s5, s6, s7, s8, s9, s10⟩ := (hrx4.set11 k f r u xp xn yp yn (.slice (some ⟨g, 0, none⟩) im im) a b).cells
  have HPost : Hid (RP w.heap.size (set11 U4 (w.heap.size + 1) (.int .i64 k) (.int .i64 f) (.int .i64 r) (.int .i64 u) (.int .i64 xp) (.int .i64 xn) (.int .i64 yp) (.int .i64 yn) (.slice (some ⟨g, 0, none⟩) im im) (.int .i64 a) (.int .i64 b)).heap.size (set11 U4 (w.heap.size + 1) (.int .i64 k) (.int .i64 f) (.int .i64 r) (.int .i64 u) (.int .i64 xp) (.int .i64 xn) (.int .i64 yp) (.int .i64 yn) (.slice (some ⟨g, 0, none⟩) im im) (.int .i64 a) (.int .i64 b)) (some ⟨g, 0, none⟩) im im xs ∧ (set11 U4 (w.heap.size + 1) (.int .i64 k) (.int .i64 f) (.int .i64 r) (.int .i64 u) (.int .i64 xp) (.int .i64 xn) (.int .i64 yp) (.int .i64 yn) (.slice (some ⟨g, 0, none⟩) im im) (.int .i64 a) (.int .i64 b)).rowIs g 50 (im * 2) (cellP xs im) ∧ Below w.heap.size w (set11 U4 (w.heap.size + 1) (.int .i64 k) (.int .i64 f) (.int .i64 r) (.int .i64 u) (.int .i64 xp) (.int .i64 xn) (.int .i64 yp) (.int .i64 yn) (.slice (some ⟨g, 0, none⟩) im im) (.int .i64 a) (.int .i64 b))) := by
    have hr : (set11 U4 (w.heap.size + 1) (.int .i64 k) (.int .i64 f) (.int .i64 r) (.int .i64 u) (.int .i64 xp) (.int .i64 xn) (.int .i64 yp) (.int .i64 yn) (.slice (some ⟨g, 0, none⟩) im im) (.int .i64 a) (.int .i64 b)).rowIs g 50 (im * 2) (cellP xs im) := HRow4.out.of_block (heap_set11 _ _ _ _ _ _ _ _ _ _ _ _ (by omega))
    exact ⟨rowP_rd hr HLen.out him (by omega) hr.lt, hr, below_set11 (HB0.out.trans (HBU4.out.mono (by omega))) (by omega) _ _ _ _ _ _ _ _ _ _ _⟩
  have HPf : Hid (Free w.heap.size (set11 U4 (w.heap.size + 1) (.int .i64 k) (.int .i64 f) (.int .i64 r) (.int .i64 u) (.int .i64 xp) (.int .i64 xn) (.int .i64 yp) (.int .i64 yn) (.slice (some ⟨g, 0, none⟩) im im) (.int .i64 a) (.int .i64 b)).heap.size (set11 U4 (w.heap.size + 1) (.int .i64 k) (.int .i64 f) (.int .i64 r) (.int .i64 u) (.int .i64 xp) (.int .i64 xn) (.int .i64 yp) (.int .i64 yn) (.slice (some ⟨g, 0, none⟩) im im) (.int .i64 a) (.int .i64 b))) := by
    have hp := HS1.out
    have hf0 : Free w.heap.size U4.heap.size U4 := fun b h1 h2 o => by
      by_cases e0 : b = w.heap.size
      · subst e0; exact (HLx.out _ HBU4.out).frz o
      · by_cases e1 : b = w.heap.size + 1
        · subst e1; exact hrx4.frz o
        · by_cases e2 : b = w.heap.size + 1 + 1
          · subst e2; exact HOx4.out.frz o
          · exact HFu4.out b (by omega) h2 o
    rw [Hid, size_set11]
    unfold set11
    exact ((((((((((hf0.set _ _).set _ _).set _ _).set _ _).set _ _).set _ _).set _ _).set _ _).set _ _).set _ _).set _ _
  simp only [set11] at s0 s1 s2 s3 s4 s5 s6 s7 s8 s9 s10
  clear hrx4
  go_wp2_with fail
  refine bodyPost_ret (v := .agg #[.int .i64 k, .int .i64 f, .int .i64 r, .int .i64 u, .int .i64 xp, .int .i64 xn, .int .i64 yp, .int .i64 yn, .slice (some ⟨g, 0, none⟩) im im, .int .i64 a, .int .i64 b]) (by simp [results, Tryz.results45, go_sem, s0, s1, s2, s3, s4, s5, s6, s7, s8, s9, s10]) rfl ?_
  exact ⟨g, rfl, HPost.out.1, HPost.out.2.1, HPost.out.2.2, HPf.out⟩

set_option maxRecDepth 100000 in
set_option maxHeartbeats 8000000 in
theorem toG_fr {a : Option Addr} {n cap : Nat} {xs : List CL} {w : World} {lo hi : Nat} (h : RdG lo hi w a n cap xs) (hhi : hi ≤ w.heap.size) (hn1 : n ≤ 1048576) (hfit : ∀ i, i < n → (xs.getD i CL.zero).inds.length ≤ 1048576) :
    Calls Tryz.prog 22 #[.slice a n cap] w fun e w' => e = .returned (.slice (some ⟨w.heap.size, 0, none⟩) n n) ∧ RdG w.heap.size w'.heap.size w' (some ⟨w.heap.size, 0, none⟩) n n xs ∧ Below w.heap.size w w' ∧ Free w.heap.size w'.heap.size w' := by
  have HR : Hid (RdG lo hi w a n cap xs) := h
  have HL : Hid (xs.length = n) := h.len
  have hf := h.fits
  have HFit : Hid (∀ i, i < n → (xs.getD i CL.zero).inds.length ≤ 1048576) := hfit
  have hmk : ∀ w : World, (Instr.makeSlice 31 (.int .i64 (n : Int)) (.int .i64 (n : Int))).run Tryz.prog w = .ok (.slice (some ⟨w.heap.size, 0, none⟩) n n) (w.alloc (.cells (madeCells #[.int .i64 0, .int .i64 0, .int .i64 0, .int .i64 0, .int .i64 0, .int .i64 0, .int .i64 0, .int .i64 0, .slice none 0 0, .int .i64 0, .int .i64 0] (n * 11)) 53)) := by
    intro w
    obtain ⟨i0, hi0, hz0, hz1, hz2⟩ := info_parts Tryz.infoClause
    have hr := run_make (P := Tryz.prog) w 31 53 i0 _ Tryz.underlying31 hi0 hz0 .i64 .i64 n n (by omega) (Int.le_refl _) (by rw [hz2]; omega) (by omega)
    simp only [Int.toNat_natCast, hz1] at hr
    exact hr
  obtain ⟨M, hM⟩ : ∃ M, M = madeCells #[.int .i64 0, .int .i64 0, .int .i64 0, .int .i64 0, .int .i64 0, .int .i64 0, .int .i64 0, .int .i64 0, .slice none 0 0, .int .i64 0, .int .i64 0] (n * 11) := ⟨_, rfl⟩
  rw [← hM] at hmk
  have hMs : M.size = n * 11 := by rw [hM, size_madeCells]
  have h0 : Hid ((w.alloc (.cells M 53)).rowIs w.heap.size 53 (n * 11) (fun i => M.getD i undef)) := by
    unfold Hid
    have key := World.rowIs_alloc w M 53 (fun i => M.getD i undef) (fun i hi => by simp [Array.getD, hi])
    rw [hMs] at key; exact key
  clear h hfit hM hMs
  go_enter Tryz.func22, Tryz.ntmps22
  go_wp2_with fail
  go_loopw [4] (fun i wr => ∃ (k : Nat) (F : Nat → Value), k ≤ n ∧ i = .int .i64 k ∧ wr.rowIs w.heap.size 53 (n * 11) F ∧ (∀ i, i < k → ClF F (i * 11) (w.heap.size + 1) wr.heap.size wr (xs.getD i CL.zero)) ∧ Below w.heap.size w wr ∧ Free w.heap.size wr.heap.size wr) (fun i _ => n - (intOf i).toNat)
  case atStart => exact ⟨0, _, Nat.zero_le _, rfl, h0.out, fun i hi => absurd hi (by omega), (Below.refl _ _).alloc (Nat.le_refl _) _, free_al (Free.nil _ _) _ _⟩
  case round =>
    obtain ⟨k, F, hk, rfl, hrow, hkd, hbel, hfr⟩ := hrel
    have HFr : Hid (Free w.heap.size wr.heap.size wr) := hfr
    clear hfr
    by_cases hlt : k < n
    · have hK := HR.out.below hbel hhi
      rcases hK.cells with hz | ⟨b, off, e1, _, hbh, hc⟩
      · omega
      · subst e1
        obtain ⟨ia, im, ic, q0, q1, q2, q3, q4, q5, q6, q7, q8, q9, q10, hrd⟩ := hc k hlt
        have hil := HFit.out k hlt
        obtain ⟨x, hx⟩ : ∃ x, x = xs.getD k CL.zero := ⟨_, rfl⟩
        rw [← hx] at q0 q1 q2 q3 q4 q5 q6 q7 q9 q10 hrd hil
        have HX : Hid (x = xs.getD k CL.zero) := hx
        obtain ⟨xk, xf, xr, xu, xxp, xxn, xyp, xyn, xi, xa, xb⟩ := x
        dsimp only at q0 q1 q2 q3 q4 q5 q6 q7 q9 q10 hrd hil
        have him : im ≤ 1048576 := by have := hrd.len; omega
        have HRd : Hid (RP lo hi wr ia im ic xi) := hrd
        have HKd : Hid (∀ i, i < k → ClF F (i * 11) (w.heap.size + 1) wr.heap.size wr (xs.getD i CL.zero)) := hkd
        have HB : Hid (Below w.heap.size w wr) := hbel
        have HRow : Hid (wr.rowIs w.heap.size 53 (n * 11) F) := hrow
        have hki : (k : Int) < (n : Int) := by omega
        have hlw := hrow.lt
        clear hK hc hrd hbel hrow hkd hx hil
        go_wp2_with fail
        refine (toK_fr HRd.out (Nat.le_trans hhi HB.out.size) him).mono ?_
        rintro e w1 ⟨g, rfl, hx1, _, hb1, hf1⟩
        have hs1 := hb1.size
        have hrow1 : w1.rowIs w.heap.size 53 (n * 11) F := HRow.out.of_block (hb1.block _ hlw)
        have o0 := hrow1.cell (show k * 11 < n * 11 by omega)
        have o1 := hrow1.cell (show k * 11 + 1 < n * 11 by omega)
        have o2 := hrow1.cell (show k * 11 + 2 < n * 11 by omega)
        have o3 := hrow1.cell (show k * 11 + 3 < n * 11 by omega)
        have o4 := hrow1.cell (show k * 11 + 4 < n * 11 by omega)
        have o5 := hrow1.cell (show k * 11 + 5 < n * 11 by omega)
        have o6 := hrow1.cell (show k * 11 + 6 < n * 11 by omega)
        have o7 := hrow1.cell (show k * 11 + 7 < n * 11 by omega)
        have o8 := hrow1.cell (show k * 11 + 8 < n * 11 by omega)
        have o9 := hrow1.cell (show k * 11 + 9 < n * 11 by omega)
        have o10 := hrow1.cell (show k * 11 + 10 < n * 11 by omega)
        have df : ∀ o, w1.frozen? ⟨w.heap.size, o, none⟩ = false := fun o => hrow1.frozen o
        have HStep := row_put11 (p := k * 11) hrow1 (.int .i64 xk) (.int .i64 xf) (.int .i64 xr) (.int .i64 xu) (.int .i64 xxp) (.int .i64 xxn) (.int .i64 xyp) (.int .i64 xyn) (.slice (some ⟨g, 0, none⟩) im im) (.int .i64 xa) (.int .i64 xb)
        obtain ⟨w2, hw2⟩ : ∃ w2, w2 = set11o w1 w.heap.size (k * 11) (.int .i64 xk) (.int .i64 xf) (.int .i64 xr) (.int .i64 xu) (.int .i64 xxp) (.int .i64 xxn) (.int .i64 xyp) (.int .i64 xyn) (.slice (some ⟨g, 0, none⟩) im im) (.int .i64 xa) (.int .i64 xb) := ⟨_, rfl⟩
        have hsz2 : w2.heap.size = w1.heap.size := by rw [hw2]; exact size_set11o _ _ _ _ _ _ _ _ _ _ _ _ _ _
        have hS : Same (w.heap.size + 1) w1.heap.size w1 w2 := fun b h1 h2 => by rw [hw2]; exact heap_set11o _ _ _ _ _ _ _ _ _ _ _ _ (by omega)
        rw [← hw2] at HStep
        have HW2 : Hid (w2 = (((((((((((w1.setCell ⟨w.heap.size, k * 11, none⟩ (.int .i64 xk)).setCell ⟨w.heap.size, k * 11 + 1, none⟩ (.int .i64 xf)).setCell ⟨w.heap.size, k * 11 + 2, none⟩ (.int .i64 xr)).setCell ⟨w.heap.size, k * 11 + 3, none⟩ (.int .i64 xu)).setCell ⟨w.heap.size, k * 11 + 4, none⟩ (.int .i64 xxp)).setCell ⟨w.heap.size, k * 11 + 5, none⟩ (.int .i64 xxn)).setCell ⟨w.heap.size, k * 11 + 6, none⟩ (.int .i64 xyp)).setCell ⟨w.heap.size, k * 11 + 7, none⟩ (.int .i64 xyn)).setCell ⟨w.heap.size, k * 11 + 8, none⟩ (.slice (some ⟨g, 0, none⟩) im im)).setCell ⟨w.heap.size, k * 11 + 9, none⟩ (.int .i64 xa)).setCell ⟨w.heap.size, k * 11 + 10, none⟩ (.int .i64 xb))) := hw2
        have hfr2 : Free w.heap.size w2.heap.size w2 := by
          rw [hw2, size_set11o]
          unfold set11o
          exact (((((((((((HFr.out.next hb1 hf1).set _ _).set _ _).set _ _).set _ _).set _ _).set _ _).set _ _).set _ _).set _ _).set _ _).set _ _
        have HRes : Hid (∃ (k' : Nat) (F' : Nat → Value), k' ≤ n ∧ Value.int .i64 ((k : Int) + 1) = .int .i64 k' ∧ w2.rowIs w.heap.size 53 (n * 11) F' ∧ (∀ i, i < k' → ClF F' (i * 11) (w.heap.size + 1) w2.heap.size w2 (xs.getD i CL.zero)) ∧ Below w.heap.size w w2 ∧ Free w.heap.size w2.heap.size w2) := by
          refine ⟨k + 1, _, by omega, by simp, HStep, ?_, ?_, hfr2⟩
          · intro i hi
            rw [hsz2]
            by_cases e : i = k
            · subst e
              obtain ⟨p0, p1, p2, p3, p4, p5, p6, p7, p8, p9, p10⟩ := put11_at F (i * 11) (.int .i64 xk) (.int .i64 xf) (.int .i64 xr) (.int .i64 xu) (.int .i64 xxp) (.int .i64 xxn) (.int .i64 xyp) (.int .i64 xyn) (.slice (some ⟨g, 0, none⟩) im im) (.int .i64 xa) (.int .i64 xb)
              rw [← HX.out]
              exact ⟨_, _, _, p0, p1, p2, p3, p4, p5, p6, p7, p8, p9, p10, (hx1.mono (by omega) (Nat.le_refl _)).same hS⟩
            · refine ((HKd.out i (by omega)).carry (Same.of_below hb1 (Nat.le_refl _)) hs1 (fun j _ _ => rfl)).carry hS (Nat.le_refl _) (fun j h1 h2 => put11_off F _ _ _ _ _ _ _ _ _ _ _ (by omega))
          · rw [hw2]
            exact below_set11o (HB.out.trans (hb1.mono HB.out.size)) (Nat.le_refl _) _ _ _ _ _ _ _ _ _ _ _ _
        clear hrow1 hx1 hb1 HStep hS hw2 hsz2 hf1 hfr2
        go_wp2_with fail
        rw [← HW2.out]
        go_roundw
        case rel => exact HRes.out
        case measure => simp [intOf]; omega
    · have hkn : k = n := by omega
      subst hkn
      have HF : Hid (RdG w.heap.size wr.heap.size wr (some ⟨w.heap.size, 0, none⟩) k k xs) := by
        refine ⟨HL.out, by omega, .inr ⟨_, _, rfl, Nat.le_refl _, hrow.lt, fun i hi => ?_⟩⟩
        obtain ⟨ia, im, ic, q0, q1, q2, q3, q4, q5, q6, q7, q8, q9, q10, hr⟩ := hkd i hi
        have t : ∀ (m : Nat) (v : Value), m < 11 → F (i * 11 + m) = v → wr.cell? ⟨w.heap.size, i * 11 + m, none⟩ = some v := fun m v hm e => by rw [hrow.cell (show i * 11 + m < k * 11 by omega), e]
        rw [Nat.zero_add]
        exact ⟨ia, im, ic, t 0 _ (by omega) q0, t 1 _ (by omega) q1, t 2 _ (by omega) q2, t 3 _ (by omega) q3, t 4 _ (by omega) q4, t 5 _ (by omega) q5, t 6 _ (by omega) q6, t 7 _ (by omega) q7, t 8 _ (by omega) q8, t 9 _ (by omega) q9, t 10 _ (by omega) q10, hr.mono (by omega) (Nat.le_refl _)⟩
      have HB : Hid (Below w.heap.size w wr) := hbel
      clear hrow hkd hbel
      go_wp2_with fail
      go_ret
      exact ⟨rfl, HF.out, HB.out, HFr.out⟩

set_option maxRecDepth 100000 in
set_option maxHeartbeats 4000000 in
theorem toS_fr {d : Nat} {aa : Option Addr} {an ac : Nat} {ra : Option Addr} {rn rc : Nat} {wa : Option Addr} {wn wc : Nat} {la : Option Addr} {ln lc : Nat} {s : CS} {w : World} {lo hi : Nat} (h : RdS lo hi w d aa an ac ra rn rc wa wn wc la ln lc s) (hhi : hi ≤ w.heap.size) (hfit : FitS s an rn wn ln) :
    Calls Tryz.prog 6 #[.agg #[.slice aa an ac, .slice ra rn rc, .slice wa wn wc, .slice la ln lc]] w fun e w' => ∃ g0 g1 g2 g3, e = .returned (.agg #[.slice (some ⟨g0, 0, none⟩) an an, .slice (some ⟨g1, 0, none⟩) rn rn, .slice (some ⟨g2, 0, none⟩) wn wn, .slice (some ⟨g3, 0, none⟩) ln ln]) ∧ RdS w.heap.size w'.heap.size w' d (some ⟨g0, 0, none⟩) an an (some ⟨g1, 0, none⟩) rn rn (some ⟨g2, 0, none⟩) wn wn (some ⟨g3, 0, none⟩) ln ln s ∧ Below w.heap.size w w' ∧ Free w.heap.size w'.heap.size w' := by
  obtain ⟨W0, hW0⟩ : ∃ W0, W0 = ((w.alloc (.cells #[.slice aa an ac, .slice ra rn rc, .slice wa wn wc, .slice la ln lc] 26)).alloc (.cells #[.slice none 0 0, .slice none 0 0, .slice none 0 0, .slice none 0 0] 33)).alloc (.cells #[.slice none 0 0, .slice none 0 0, .slice none 0 0, .slice none 0 0] 33) := ⟨_, rfl⟩
  have HW0 : Hid (W0 = ((w.alloc (.cells #[.slice aa an ac, .slice ra rn rc, .slice wa wn wc, .slice la ln lc] 26)).alloc (.cells #[.slice none 0 0, .slice none 0 0, .slice none 0 0, .slice none 0 0] 33)).alloc (.cells #[.slice none 0 0, .slice none 0 0, .slice none 0 0, .slice none 0 0] 33)) := hW0
  have hb0 : Below w.heap.size w W0 := by rw [hW0]; exact (((Below.refl _ _).alloc (Nat.le_refl _) _).alloc (by simp) _).alloc (by simp; omega) _
  have HB0 : Hid (Below w.heap.size w W0) := hb0
  have HS0e : Hid (W0.heap.size = w.heap.size + 3) := by rw [Hid, hW0]; simp
  have hs0 : w.heap.size + 3 ≤ W0.heap.size := by rw [hW0]; simp
  have hbx : Blk W0 w.heap.size 26 (.slice aa an ac) (.slice ra rn rc) (.slice wa wn wc) (.slice la ln lc) := by rw [hW0]; exact ((Blk.alloc_new w _ _ _ _ _ _ rfl).alloc _).alloc _
  have hbo : Blk W0 (w.heap.size + 1) 33 (.slice none 0 0) (.slice none 0 0) (.slice none 0 0) (.slice none 0 0) := by rw [hW0]; exact (Blk.alloc_new _ _ _ _ _ _ _ (by simp)).alloc _
  have hbt : Blk W0 (w.heap.size + 1 + 1) 33 (.slice none 0 0) (.slice none 0 0) (.slice none 0 0) (.slice none 0 0) := by rw [hW0]; exact Blk.alloc_new _ _ _ _ _ _ _ (by simp)
  have h00 : Hid (∀ V, Below w.heap.size w V → RdS lo hi V d aa an ac ra rn rc wa wn wc la ln lc s) := fun V hV => h.below hV hhi
  have HR0 : Hid (RdS lo hi W0 d aa an ac ra rn rc wa wn wc la ln lc s) := h.below hb0 hhi
  have hsz0 : hi ≤ W0.heap.size := by omega
  have HX0 : Hid (Blk W0 w.heap.size 26 (.slice aa an ac) (.slice ra rn rc) (.slice wa wn wc) (.slice la ln lc)) := hbx
  have HO0 : Hid (Blk W0 (w.heap.size + 1) 33 (.slice none 0 0) (.slice none 0 0) (.slice none 0 0) (.slice none 0 0)) := hbo
  have HT0 : Hid (Blk W0 (w.heap.size + 1 + 1) 33 (.slice none 0 0) (.slice none 0 0) (.slice none 0 0) (.slice none 0 0)) := hbt
  have HFit : Hid (FitS s an rn wn ln) := hfit
  obtain ⟨z0, z1, z2, z3, _⟩ := hbx.cells
  clear h hb0 hW0 hbx hbo hbt hfit
  go_enter Tryz.func6, Tryz.ntmps6
  go_upto_region 2 with fail
  rw [← HW0.out]
  go_wp2_with fail
  refine (toL_of (toC_any d) aa an ac s.atoms W0 lo hi HR0.out.atoms hsz0 HFit.out.1.1).mono ?_
  rintro e w1 ⟨rfl, hrd, hfr, hb⟩
  have hT := HT0.out.below hb (by omega)
  have hO := HO0.out.below hb (by omega)
  have hX := HX0.out.below hb (by omega)
  obtain ⟨V1, hV⟩ : ∃ V, V = w1.setCell ⟨w.heap.size + 1 + 1, 0, none⟩ (.slice (some ⟨W0.heap.size, 0, none⟩) an an) := ⟨_, rfl⟩
  have HV1 : Hid (V1 = w1.setCell ⟨w.heap.size + 1 + 1, 0, none⟩ (.slice (some ⟨W0.heap.size, 0, none⟩) an an)) := hV
  have hs := hb.size
  have hsV : V1.heap.size ≤ w1.heap.size := by rw [hV]; simp
  have hsV' : w1.heap.size ≤ V1.heap.size := by rw [hV]; simp
  have hB : Below w.heap.size w V1 := by rw [hV, below_set _ _ _ _ _ _ (by omega)]; exact HB0.out.trans (hb.mono (by omega))
  have HB1 : Hid (Below w.heap.size w V1) := hB
  have hSm : Same W0.heap.size w1.heap.size w1 V1 := fun b h1 h2 => by rw [hV]; exact Below.heap_setCell _ _ _ _ (by simp; omega)
  have HT1 : Hid (Blk V1 (w.heap.size + 1 + 1) 33 (.slice (some ⟨W0.heap.size, 0, none⟩) an an) (.slice none 0 0) (.slice none 0 0) (.slice none 0 0)) := by unfold Hid; rw [hV]; exact hT.set 0 _
  have HO1 : Hid (Blk V1 (w.heap.size + 1) 33 (.slice none 0 0) (.slice none 0 0) (.slice none 0 0) (.slice none 0 0)) := by unfold Hid; rw [hV]; exact hO.setOther (by simp) _
  have HX1 : Hid (Blk V1 w.heap.size 26 (.slice aa an ac) (.slice ra rn rc) (.slice wa wn wc) (.slice la ln lc)) := by unfold Hid; rw [hV]; exact hX.setOther (by simp; omega) _
  have HR1 : Hid (RdS lo hi V1 d aa an ac ra rn rc wa wn wc la ln lc s) := h00.out V1 hB
  have hsz1 : hi ≤ V1.heap.size := by omega
  have HD0 : Hid (RdL (RdC W0.heap.size w1.heap.size V1 d) W0.heap.size w1.heap.size V1 (some ⟨W0.heap.size, 0, none⟩) an an s.atoms) := hrd.same hSm
  obtain ⟨q0, q1, q2, q3, qf⟩ := hT.cells
  obtain ⟨y0, y1, y2, y3, _⟩ := hX.cells
  have HFr1 : Hid (Free W0.heap.size V1.heap.size V1) := by
    unfold Hid; rw [hV]
    have := hfr.set ⟨w.heap.size + 1 + 1, 0, none⟩ (.slice (some ⟨W0.heap.size, 0, none⟩) an an)
    simpa using this
  clear hT hO hX hV hB hSm hrd hb hfr z0 z1 z2 z3
  go_upto_region 3 with fail
  rw [← HV1.out]
  clear q0 q1 q2 q3 qf y0 y1 y2 y3
  obtain ⟨z0, z1, z2, z3, _⟩ := HX1.out.cells
  go_wp2_with fail
  refine (toByteSS_fr ra rn rc s.roles V1 HR1.out.roles hsz1 HFit.out.2.1.1 HFit.out.2.1.2).mono ?_
  rintro e w2 ⟨rfl, hrd, hb, hfr⟩
  have hT := HT1.out.below hb (by omega)
  have hO := HO1.out.below hb (by omega)
  have hX := HX1.out.below hb (by omega)
  obtain ⟨V2, hV⟩ : ∃ V, V = w2.setCell ⟨w.heap.size + 1 + 1, 1, none⟩ (.slice (some ⟨V1.heap.size, 0, none⟩) rn rn) := ⟨_, rfl⟩
  have HV2 : Hid (V2 = w2.setCell ⟨w.heap.size + 1 + 1, 1, none⟩ (.slice (some ⟨V1.heap.size, 0, none⟩) rn rn)) := hV
  have hs := hb.size
  have hsV : V2.heap.size ≤ w2.heap.size := by rw [hV]; simp
  have hsV' : w2.heap.size ≤ V2.heap.size := by rw [hV]; simp
  have hB : Below w.heap.size w V2 := by rw [hV, below_set _ _ _ _ _ _ (by omega)]; exact HB1.out.trans (hb.mono (by omega))
  have HB2 : Hid (Below w.heap.size w V2) := hB
  have hSm : Same V1.heap.size w2.heap.size w2 V2 := fun b h1 h2 => by rw [hV]; exact Below.heap_setCell _ _ _ _ (by simp; omega)
  have HT2 : Hid (Blk V2 (w.heap.size + 1 + 1) 33 (.slice (some ⟨W0.heap.size, 0, none⟩) an an) (.slice (some ⟨V1.heap.size, 0, none⟩) rn rn) (.slice none 0 0) (.slice none 0 0)) := by unfold Hid; rw [hV]; exact hT.set1 _
  have HO2 : Hid (Blk V2 (w.heap.size + 1) 33 (.slice none 0 0) (.slice none 0 0) (.slice none 0 0) (.slice none 0 0)) := by unfold Hid; rw [hV]; exact hO.setOther (by simp) _
  have HX2 : Hid (Blk V2 w.heap.size 26 (.slice aa an ac) (.slice ra rn rc) (.slice wa wn wc) (.slice la ln lc)) := by unfold Hid; rw [hV]; exact hX.setOther (by simp; omega) _
  have HR2 : Hid (RdS lo hi V2 d aa an ac ra rn rc wa wn wc la ln lc s) := h00.out V2 hB
  have hsz2 : hi ≤ V2.heap.size := by omega
  have HD1 : Hid (RSS V1.heap.size w2.heap.size V2 (some ⟨V1.heap.size, 0, none⟩) rn rn s.roles) := hrd.same hSm
  have HD0' : Hid (RdL (RdC W0.heap.size w1.heap.size V2 d) W0.heap.size w1.heap.size V2 (some ⟨W0.heap.size, 0, none⟩) an an s.atoms) := (HD0.out.same (Same.of_below hb (by omega))).same (fun b h1 h2 => by rw [hV]; exact Below.heap_setCell _ _ _ _ (by simp; omega))
  clear HD0
  have HD0 := HD0'
  clear HD0'
  obtain ⟨q0, q1, q2, q3, qf⟩ := hT.cells
  obtain ⟨y0, y1, y2, y3, _⟩ := hX.cells
  have HFr2 : Hid (Free W0.heap.size V2.heap.size V2) := by
    unfold Hid; rw [hV]
    have := (Free.next (w := V1) HFr1.out hb hfr).set ⟨w.heap.size + 1 + 1, 1, none⟩ (.slice (some ⟨V1.heap.size, 0, none⟩) rn rn)
    simpa using this
  clear hT hO hX hV hB hSm hrd hb hfr z0 z1 z2 z3
  go_upto_region 4 with fail
  rw [← HV2.out]
  clear q0 q1 q2 q3 qf y0 y1 y2 y3
  obtain ⟨z0, z1, z2, z3, _⟩ := HX2.out.cells
  go_wp2_with fail
  refine (toByteSS_fr wa wn wc s.who V2 HR2.out.who hsz2 HFit.out.2.2.1.1 HFit.out.2.2.1.2).mono ?_
  rintro e w3 ⟨rfl, hrd, hb, hfr⟩
  have hT := HT2.out.below hb (by omega)
  have hO := HO2.out.below hb (by omega)
  have hX := HX2.out.below hb (by omega)
  obtain ⟨V3, hV⟩ : ∃ V, V = w3.setCell ⟨w.heap.size + 1 + 1, 2, none⟩ (.slice (some ⟨V2.heap.size, 0, none⟩) wn wn) := ⟨_, rfl⟩
  have HV3 : Hid (V3 = w3.setCell ⟨w.heap.size + 1 + 1, 2, none⟩ (.slice (some ⟨V2.heap.size, 0, none⟩) wn wn)) := hV
  have hs := hb.size
  have hsV : V3.heap.size ≤ w3.heap.size := by rw [hV]; simp
  have hsV' : w3.heap.size ≤ V3.heap.size := by rw [hV]; simp
  have hB : Below w.heap.size w V3 := by rw [hV, below_set _ _ _ _ _ _ (by omega)]; exact HB2.out.trans (hb.mono (by omega))
  have HB3 : Hid (Below w.heap.size w V3) := hB
  have hSm : Same V2.heap.size w3.heap.size w3 V3 := fun b h1 h2 => by rw [hV]; exact Below.heap_setCell _ _ _ _ (by simp; omega)
  have HT3 : Hid (Blk V3 (w.heap.size + 1 + 1) 33 (.slice (some ⟨W0.heap.size, 0, none⟩) an an) (.slice (some ⟨V1.heap.size, 0, none⟩) rn rn) (.slice (some ⟨V2.heap.size, 0, none⟩) wn wn) (.slice none 0 0)) := by unfold Hid; rw [hV]; exact hT.set2 _
  have HO3 : Hid (Blk V3 (w.heap.size + 1) 33 (.slice none 0 0) (.slice none 0 0) (.slice none 0 0) (.slice none 0 0)) := by unfold Hid; rw [hV]; exact hO.setOther (by simp) _
  have HX3 : Hid (Blk V3 w.heap.size 26 (.slice aa an ac) (.slice ra rn rc) (.slice wa wn wc) (.slice la ln lc)) := by unfold Hid; rw [hV]; exact hX.setOther (by simp; omega) _
  have HR3 : Hid (RdS lo hi V3 d aa an ac ra rn rc wa wn wc la ln lc s) := h00.out V3 hB
  have hsz3 : hi ≤ V3.heap.size := by omega
  have HD2 : Hid (RSS V2.heap.size w3.heap.size V3 (some ⟨V2.heap.size, 0, none⟩) wn wn s.who) := hrd.same hSm
  have HD0' : Hid (RdL (RdC W0.heap.size w1.heap.size V3 d) W0.heap.size w1.heap.size V3 (some ⟨W0.heap.size, 0, none⟩) an an s.atoms) := (HD0.out.same (Same.of_below hb (by omega))).same (fun b h1 h2 => by rw [hV]; exact Below.heap_setCell _ _ _ _ (by simp; omega))
  clear HD0
  have HD0 := HD0'
  clear HD0'
  have HD1' : Hid (RSS V1.heap.size w2.heap.size V3 (some ⟨V1.heap.size, 0, none⟩) rn rn s.roles) := (HD1.out.same (Same.of_below hb (by omega))).same (fun b h1 h2 => by rw [hV]; exact Below.heap_setCell _ _ _ _ (by simp; omega))
  clear HD1
  have HD1 := HD1'
  clear HD1'
  obtain ⟨q0, q1, q2, q3, qf⟩ := hT.cells
  obtain ⟨y0, y1, y2, y3, _⟩ := hX.cells
  have HFr3 : Hid (Free W0.heap.size V3.heap.size V3) := by
    unfold Hid; rw [hV]
    have := (Free.next (w := V2) HFr2.out hb hfr).set ⟨w.heap.size + 1 + 1, 2, none⟩ (.slice (some ⟨V2.heap.size, 0, none⟩) wn wn)
    simpa using this
  clear hT hO hX hV hB hSm hrd hb hfr z0 z1 z2 z3
  go_upto_region 5 with fail
  rw [← HV3.out]
  clear q0 q1 q2 q3 qf y0 y1 y2 y3
  obtain ⟨z0, z1, z2, z3, _⟩ := HX3.out.cells
  go_wp2_with fail
  refine (toG_fr HR3.out.l hsz3 HFit.out.2.2.2.1 HFit.out.2.2.2.2).mono ?_
  rintro e w4 ⟨rfl, hrd, hb, hfr⟩
  have hT := HT3.out.below hb (by omega)
  have hO := HO3.out.below hb (by omega)
  have hX := HX3.out.below hb (by omega)
  have hs := hb.size
  have HB4 : Hid (Below w.heap.size w w4) := HB3.out.trans (hb.mono (by omega))
  have HD3 : Hid (RdG V3.heap.size w4.heap.size w4 (some ⟨V3.heap.size, 0, none⟩) ln ln s.l) := hrd
  have HE0 : Hid (RdL (RdC W0.heap.size w1.heap.size w4 d) W0.heap.size w1.heap.size w4 (some ⟨W0.heap.size, 0, none⟩) an an s.atoms) := HD0.out.same (Same.of_below hb (by omega))
  have HE1 : Hid (RSS V1.heap.size w2.heap.size w4 (some ⟨V1.heap.size, 0, none⟩) rn rn s.roles) := HD1.out.same (Same.of_below hb (by omega))
  have HE2 : Hid (RSS V2.heap.size w3.heap.size w4 (some ⟨V2.heap.size, 0, none⟩) wn wn s.who) := HD2.out.same (Same.of_below hb (by omega))
  obtain ⟨q0, q1, q2, q3, qf⟩ := hT.cells
  obtain ⟨p0, p1, p2, p3, pf⟩ := hO.cells
  have HF4 : Hid (Free w.heap.size w4.heap.size w4) := fun b h1 h2 o => by
    have hp := HS0e.out
    by_cases e0 : b = w.heap.size
    · subst e0; exact hX.cells.2.2.2.2 o
    · by_cases e1 : b = w.heap.size + 1
      · subst e1; exact hO.cells.2.2.2.2 o
      · by_cases e2 : b = w.heap.size + 1 + 1
        · subst e2; exact hT.cells.2.2.2.2 o
        · exact (Free.next (w := V3) HFr3.out hb hfr) b (by omega) h2 o
  clear hT hO hX hrd hb hfr z0 z1 z2 z3
  go_wp2_with fail
  have hS : Same W0.heap.size w4.heap.size w4 (((((w4.setCell ⟨w.heap.size + 1 + 1, 3, none⟩ (.slice (some ⟨V3.heap.size, 0, none⟩) ln ln)).setCell ⟨w.heap.size + 1, 0, none⟩ (.slice (some ⟨W0.heap.size, 0, none⟩) an an)).setCell ⟨w.heap.size + 1, 1, none⟩ (.slice (some ⟨V1.heap.size, 0, none⟩) rn rn)).setCell ⟨w.heap.size + 1, 2, none⟩ (.slice (some ⟨V2.heap.size, 0, none⟩) wn wn)).setCell ⟨w.heap.size + 1, 3, none⟩ (.slice (some ⟨V3.heap.size, 0, none⟩) ln ln)) := by
    intro b h1 h2
    rw [Below.heap_setCell _ _ _ _ (by simp; omega), Below.heap_setCell _ _ _ _ (by simp; omega), Below.heap_setCell _ _ _ _ (by simp; omega), Below.heap_setCell _ _ _ _ (by simp; omega), Below.heap_setCell _ _ _ _ (by simp; omega)]
  have hsz : (((((w4.setCell ⟨w.heap.size + 1 + 1, 3, none⟩ (.slice (some ⟨V3.heap.size, 0, none⟩) ln ln)).setCell ⟨w.heap.size + 1, 0, none⟩ (.slice (some ⟨W0.heap.size, 0, none⟩) an an)).setCell ⟨w.heap.size + 1, 1, none⟩ (.slice (some ⟨V1.heap.size, 0, none⟩) rn rn)).setCell ⟨w.heap.size + 1, 2, none⟩ (.slice (some ⟨V2.heap.size, 0, none⟩) wn wn)).setCell ⟨w.heap.size + 1, 3, none⟩ (.slice (some ⟨V3.heap.size, 0, none⟩) ln ln)).heap.size = w4.heap.size := by simp
  refine bodyPost_ret (v := .agg #[.slice (some ⟨W0.heap.size, 0, none⟩) an an, .slice (some ⟨V1.heap.size, 0, none⟩) rn rn, .slice (some ⟨V2.heap.size, 0, none⟩) wn wn, .slice (some ⟨V3.heap.size, 0, none⟩) ln ln]) (by simp [results, Tryz.results6, go_sem, p0, p1, p2, p3]) rfl ⟨_, _, _, _, rfl, ?_, ?_, ?_⟩
  · rw [hsz]
    exact ⟨HE0.out.imp (fun v c h => (h.same (hS.mono (by omega) (by omega))).mono (by omega) (by omega)) (hS.mono (by omega) (by omega)) (by omega) (by omega), (HE1.out.same (hS.mono (by omega) (by omega))).mono (by omega) (by omega), (HE2.out.same (hS.mono (by omega) (by omega))).mono (by omega) (by omega), (HD3.out.same (hS.mono (by omega) (by omega))).mono (by omega) (by omega)⟩
  · simp only [below_set _ _ _ _ _ _ (show w.heap.size ≤ w.heap.size + 1 by omega), below_set _ _ _ _ _ _ (show w.heap.size ≤ w.heap.size + 1 + 1 by omega)]
    exact HB4.out
  · rw [hsz]
    exact ((((HF4.out.set _ _).set _ _).set _ _).set _ _).set _ _

end Go.Proofs.YtknainelonaigaaGreatDoor
