/- The clause that has a literal's atom alone, as the program lays its key (atomAlone): a contract. -/
import Derived.Test.YtcaljggnihinaaaDoorCmpKey2
import Derived.Test.YtcaljggnihinaaaDoorTautM
import Derived.Test.YtcaljggnihinaaaDoorTautK
import Derived.Deep.RegionHeld3
import Derived.Deep.DeepCutAuto
namespace Go.Proofs.YtcaljggnihinaaaDoor
open Go.RowKit Go.Deep
set_option linter.unusedVariables false

set_option maxRecDepth 100000 in
set_option maxHeartbeats 8000000 in
theorem atomAlone_0 {k f r u xp xn yp yn : Int} {ia : Option Addr} {im ic : Nat} {a b : Int} {n : Nat} {no : Bool} {w : World} (m : Int) (hm : IntKind.i64.wrap ((2 : Int) ^ n) = m) (hn : n < 24) :
    Calls Tryd.prog 23 #[.agg #[.int .i64 k, .int .i64 f, .int .i64 r, .int .i64 u, .int .i64 xp, .int .i64 xn, .int .i64 yp, .int .i64 yn, .slice ia im ic, .int .i64 a, .int .i64 b], .agg #[.int .i64 0, .int .i64 (n : Int), .bool no]] w fun e w' => e = .returned (.agg (keyVs [k, f, r, u, m, 0, 0, 0, a, b, 0, 0, 0, 0, 0, 0, 0, 0])) ∧ Below w.heap.size w w' := by
  obtain ⟨W0, hW0⟩ : ∃ W0, W0 = (((w.alloc (.cells #[.int .i64 k, .int .i64 f, .int .i64 r, .int .i64 u, .int .i64 xp, .int .i64 xn, .int .i64 yp, .int .i64 yn, .slice ia im ic, .int .i64 a, .int .i64 b] 32)).alloc (.cells #[.int .i64 0, .int .i64 (n : Int), .bool no] 49)).alloc (.cells #[.int .i64 0, .int .i64 0, .int .i64 0, .int .i64 0, .int .i64 0, .int .i64 0, .int .i64 0, .int .i64 0, .int .i64 0, .int .i64 0, .int .i64 0, .int .i64 0, .int .i64 0, .int .i64 0, .int .i64 0, .int .i64 0, .int .i64 0, .int .i64 0] 51)).alloc (.cells #[.int .i64 0, .int .i64 0, .int .i64 0, .int .i64 0, .int .i64 0, .int .i64 0, .int .i64 0, .int .i64 0, .int .i64 0, .int .i64 0, .int .i64 0, .int .i64 0] 68) := ⟨_, rfl⟩
  have HW0 : Hid (W0 = (((w.alloc (.cells #[.int .i64 k, .int .i64 f, .int .i64 r, .int .i64 u, .int .i64 xp, .int .i64 xn, .int .i64 yp, .int .i64 yn, .slice ia im ic, .int .i64 a, .int .i64 b] 32)).alloc (.cells #[.int .i64 0, .int .i64 (n : Int), .bool no] 49)).alloc (.cells #[.int .i64 0, .int .i64 0, .int .i64 0, .int .i64 0, .int .i64 0, .int .i64 0, .int .i64 0, .int .i64 0, .int .i64 0, .int .i64 0, .int .i64 0, .int .i64 0, .int .i64 0, .int .i64 0, .int .i64 0, .int .i64 0, .int .i64 0, .int .i64 0] 51)).alloc (.cells #[.int .i64 0, .int .i64 0, .int .i64 0, .int .i64 0, .int .i64 0, .int .i64 0, .int .i64 0, .int .i64 0, .int .i64 0, .int .i64 0, .int .i64 0, .int .i64 0] 68)) := hW0
  have hs0 : w.heap.size + 4 ≤ W0.heap.size := by rw [hW0]; simp
  have hb0 : Below w.heap.size w W0 := by rw [hW0]; exact ((((Below.refl _ _).alloc (Nat.le_refl _) _).alloc (by simp) _).alloc (by simp; omega) _).alloc (by simp; omega) _
  have HB0 : Hid (Below w.heap.size w W0) := hb0
  have hbp : W0.heap[w.heap.size + 1 + 1 + 1]? = some (.cells #[.int .i64 0, .int .i64 0, .int .i64 0, .int .i64 0, .int .i64 0, .int .i64 0, .int .i64 0, .int .i64 0, .int .i64 0, .int .i64 0, .int .i64 0, .int .i64 0] 68 (0, 0)) := by
    have e := World.alloc_heap_new (((w.alloc (.cells #[.int .i64 k, .int .i64 f, .int .i64 r, .int .i64 u, .int .i64 xp, .int .i64 xn, .int .i64 yp, .int .i64 yn, .slice ia im ic, .int .i64 a, .int .i64 b] 32)).alloc (.cells #[.int .i64 0, .int .i64 (n : Int), .bool no] 49)).alloc (.cells #[.int .i64 0, .int .i64 0, .int .i64 0, .int .i64 0, .int .i64 0, .int .i64 0, .int .i64 0, .int .i64 0, .int .i64 0, .int .i64 0, .int .i64 0, .int .i64 0, .int .i64 0, .int .i64 0, .int .i64 0, .int .i64 0, .int .i64 0, .int .i64 0] 51)) (.cells #[.int .i64 0, .int .i64 0, .int .i64 0, .int .i64 0, .int .i64 0, .int .i64 0, .int .i64 0, .int .i64 0, .int .i64 0, .int .i64 0, .int .i64 0, .int .i64 0] 68)
    rw [World.size_alloc, World.size_alloc, World.size_alloc] at e
    rw [hW0]; exact e
  have hbl : W0.heap[w.heap.size + 1]? = some (.cells #[.int .i64 0, .int .i64 (n : Int), .bool no] 49 (0, 0)) := by
    have e := World.alloc_heap_new (w.alloc (.cells #[.int .i64 k, .int .i64 f, .int .i64 r, .int .i64 u, .int .i64 xp, .int .i64 xn, .int .i64 yp, .int .i64 yn, .slice ia im ic, .int .i64 a, .int .i64 b] 32)) (.cells #[.int .i64 0, .int .i64 (n : Int), .bool no] 49)
    rw [World.size_alloc] at e
    rw [hW0, Below.heap_alloc _ _ _ (by simp; try omega), Below.heap_alloc _ _ _ (by simp)]
    exact e
  have hbk : BoxK 32 W0 w.heap.size k f r u xp xn yp yn (.slice ia im ic) a b := by
    rw [hW0]
    exact (((BoxK.new _ w _ _ _ _ _ _ _ _ _ _ _).below ((Below.refl _ _).alloc (Nat.le_refl _) _) (by simp)).below ((Below.refl _ _).alloc (Nat.le_refl _) _) (by simp; omega)).below ((Below.refl _ _).alloc (Nat.le_refl _) _) (by simp; omega)
  obtain ⟨zs, hzs⟩ : ∃ zs : Array Value, zs = #[.int .i64 0, .int .i64 0, .int .i64 0, .int .i64 0, .int .i64 0, .int .i64 0, .int .i64 0, .int .i64 0, .int .i64 0, .int .i64 0, .int .i64 0, .int .i64 0, .int .i64 0, .int .i64 0, .int .i64 0, .int .i64 0, .int .i64 0, .int .i64 0] := ⟨_, rfl⟩
  have hr : W0.heap[w.heap.size + 1 + 1]? = some (.cells zs 51 (0, 0)) := by
    have e := World.alloc_heap_new ((w.alloc (.cells #[.int .i64 k, .int .i64 f, .int .i64 r, .int .i64 u, .int .i64 xp, .int .i64 xn, .int .i64 yp, .int .i64 yn, .slice ia im ic, .int .i64 a, .int .i64 b] 32)).alloc (.cells #[.int .i64 0, .int .i64 (n : Int), .bool no] 49)) (.cells #[.int .i64 0, .int .i64 0, .int .i64 0, .int .i64 0, .int .i64 0, .int .i64 0, .int .i64 0, .int .i64 0, .int .i64 0, .int .i64 0, .int .i64 0, .int .i64 0, .int .i64 0, .int .i64 0, .int .i64 0, .int .i64 0, .int .i64 0, .int .i64 0] 51)
    rw [World.size_alloc, World.size_alloc] at e
    rw [hW0, Below.heap_alloc _ _ _ (by simp), hzs]
    exact e
  have l0 : W0.cell? ⟨w.heap.size + 1, 0, none⟩ = some (.int .i64 0) := by simp [World.cell?, hbl]
  have l1 : W0.cell? ⟨w.heap.size + 1, 1, none⟩ = some (.int .i64 (n : Int)) := by simp [World.cell?, hbl]
  have c0 : W0.cell? ⟨w.heap.size + 1 + 1 + 1, 0, none⟩ = some (.int .i64 0) := by simp [World.cell?, hbp]
  have f0 : W0.frozen? ⟨w.heap.size + 1 + 1 + 1, 0, none⟩ = false := by simp [World.frozen?, hbp]
  obtain ⟨W1, hW1⟩ : ∃ W1, W1 = W0.drew.setCell ⟨w.heap.size + 1 + 1 + 1, 0, none⟩ (.int .i64 m) := ⟨_, rfl⟩
  have HW1 : Hid (W1 = W0.drew.setCell ⟨w.heap.size + 1 + 1 + 1, 0, none⟩ (.int .i64 m)) := hW1
  have hs1 : W0.heap.size ≤ W1.heap.size := by rw [hW1]; simp
  have HB1 : Hid (Below w.heap.size w W1) := by unfold Hid; rw [hW1]; exact (hb0.drew).setCell (p := ⟨w.heap.size + 1 + 1 + 1, 0, none⟩) (by show w.heap.size ≤ w.heap.size + 1 + 1 + 1; omega) _
  have hbp1 : W1.heap[w.heap.size + 1 + 1 + 1]? = some (.cells #[.int .i64 m, .int .i64 0, .int .i64 0, .int .i64 0, .int .i64 0, .int .i64 0, .int .i64 0, .int .i64 0, .int .i64 0, .int .i64 0, .int .i64 0, .int .i64 0] 68 (0, 0)) := by rw [hW1]; exact heap_setCell_same _ _ _ _ _ _ hbp
  have hbk1 : BoxK 32 W1 w.heap.size k f r u xp xn yp yn (.slice ia im ic) a b := by rw [hW1]; exact (Below.heap_setCell _ _ _ _ (by simp; omega)).trans hbk
  have hr1 : W1.heap[w.heap.size + 1 + 1]? = some (.cells zs 51 (0, 0)) := by rw [hW1]; exact (Below.heap_setCell _ _ _ _ (by simp)).trans hr
  have HSat : Hid (∀ V, Below W1.heap.size W1 V → (V.cell? ⟨w.heap.size, 0, none⟩ = some (.int .i64 k) ∧ V.cell? ⟨w.heap.size, 1, none⟩ = some (.int .i64 f) ∧ V.cell? ⟨w.heap.size, 2, none⟩ = some (.int .i64 r) ∧ V.cell? ⟨w.heap.size, 3, none⟩ = some (.int .i64 u) ∧ V.cell? ⟨w.heap.size, 4, none⟩ = some (.int .i64 xp) ∧ V.cell? ⟨w.heap.size, 5, none⟩ = some (.int .i64 xn) ∧ V.cell? ⟨w.heap.size, 6, none⟩ = some (.int .i64 yp) ∧ V.cell? ⟨w.heap.size, 7, none⟩ = some (.int .i64 yn) ∧ V.cell? ⟨w.heap.size, 8, none⟩ = some (.slice ia im ic) ∧ V.cell? ⟨w.heap.size, 9, none⟩ = some (.int .i64 a) ∧ V.cell? ⟨w.heap.size, 10, none⟩ = some (.int .i64 b)) ∧ (V.cell? ⟨w.heap.size + 1 + 1 + 1, 0, none⟩ = some (.int .i64 m) ∧ V.cell? ⟨w.heap.size + 1 + 1 + 1, 1, none⟩ = some (.int .i64 0) ∧ V.cell? ⟨w.heap.size + 1 + 1 + 1, 2, none⟩ = some (.int .i64 0) ∧ V.cell? ⟨w.heap.size + 1 + 1 + 1, 3, none⟩ = some (.int .i64 0) ∧ V.cell? ⟨w.heap.size + 1 + 1 + 1, 4, none⟩ = some (.int .i64 0) ∧ V.cell? ⟨w.heap.size + 1 + 1 + 1, 5, none⟩ = some (.int .i64 0) ∧ V.cell? ⟨w.heap.size + 1 + 1 + 1, 6, none⟩ = some (.int .i64 0) ∧ V.cell? ⟨w.heap.size + 1 + 1 + 1, 7, none⟩ = some (.int .i64 0) ∧ V.cell? ⟨w.heap.size + 1 + 1 + 1, 8, none⟩ = some (.int .i64 0) ∧ V.cell? ⟨w.heap.size + 1 + 1 + 1, 9, none⟩ = some (.int .i64 0) ∧ V.cell? ⟨w.heap.size + 1 + 1 + 1, 10, none⟩ = some (.int .i64 0) ∧ V.cell? ⟨w.heap.size + 1 + 1 + 1, 11, none⟩ = some (.int .i64 0))) := fun V hV => by
    have hp := (hV.block (w.heap.size + 1 + 1 + 1) (by omega)).trans hbp1
    refine ⟨(hbk1.below hV (by omega)).cells, ?_⟩
    refine ⟨?_, ?_, ?_, ?_, ?_, ?_, ?_, ?_, ?_, ?_, ?_, ?_⟩ <;> simp [World.cell?, hp]
  have HRes : Hid (∀ V, Below W1.heap.size W1 V → V.heap[w.heap.size + 1 + 1]? = some (.cells zs 51 (0, 0))) := fun V hV => (hV.block _ (by omega)).trans hr1
  have H1d : Hid (Below W1.heap.size W1 W1.drew) := (Below.refl _ _).drew
  obtain ⟨cs, hcs⟩ : ∃ cs : Array Value, cs = keyVs [k, f, r, u, m, 0, 0, 0, a, b, 0, 0, 0, 0, 0, 0, 0, 0] := ⟨_, rfl⟩
  have HCs : Hid (cs = keyVs [k, f, r, u, m, 0, 0, 0, a, b, 0, 0, 0, 0, 0, 0, 0, 0]) := hcs
  have HHd : Hid (∀ V, Calls Tryd.prog 41 #[.agg #[.int .i64 k, .int .i64 f, .int .i64 r, .int .i64 u, .int .i64 xp, .int .i64 xn, .int .i64 yp, .int .i64 yn, .slice ia im ic, .int .i64 a, .int .i64 b]] V fun e w' => e = .returned (.agg #[.int .i64 k, .int .i64 f, .int .i64 r, .int .i64 u, .int .i64 a, .int .i64 b]) ∧ Below V.heap.size V w') := fun V => headOf_any rfl V
  have HJk : Hid (∀ V, Calls Tryd.prog 40 #[.agg #[.int .i64 k, .int .i64 f, .int .i64 r, .int .i64 u, .int .i64 a, .int .i64 b], .agg #[.int .i64 m, .int .i64 0, .int .i64 0, .int .i64 0, .int .i64 0, .int .i64 0, .int .i64 0, .int .i64 0, .int .i64 0, .int .i64 0, .int .i64 0, .int .i64 0]] V fun e w' => e = .returned (.agg cs) ∧ Below V.heap.size V w') := fun V => (joinKey_any k f r u a b m 0 0 0 0 0 0 0 0 0 0 0 V).mono fun e w' ⟨he, hb⟩ => ⟨by rw [he, hcs]; rfl, hb⟩
  have HSz : Hid ((Tryd.prog.info? 51).map (·.size) = some cs.size) := by unfold Hid; rw [hcs, keyVs_size]; exact Tryd.sizeKey
  have hzo : zs.size = cs.size := by rw [hzs, hcs, keyVs_size]; rfl
  have hone : cs.all (·.oneCell') = true := by rw [hcs]; exact keyVs_one _
  clear hb0 hW0 hzs hr hbp hbl hbk hcs hW1 hbp1 hbk1 hr1
  go_enter Tryd.func23, Tryd.ntmps23
  go_upto_region 2 with fail
  rw [← HW0.out]
  go_cut [] (fun W => W = W1)
  case first =>
    go_region
    all_goals
      go_wp2_with fail
      go_meet
      case rel => exact HW1.out.symm
  case rest =>
    rw [hcut]
    have zz := HSat.out W1 (Below.refl _ _)
    clear l0 l1 c0 f0
    go_upto_region 3 with fail
    go_region_with (first
      | (go_at_call 41; refine (HHd.out W1.drew).mono ?_; rintro e w2 ⟨rfl, hbq⟩; have Hw2 : Hid (Below W1.heap.size W1 w2) := H1d.out.trans (hbq.mono H1d.out.size); clear hbq zz; have zz := HSat.out w2 Hw2.out)
      | (go_at_call 40; refine (HJk.out w2).mono ?_; rintro e w4 ⟨rfl, hbq⟩; have Hw4 : Hid (Below W1.heap.size W1 w4) := Hw2.out.trans (hbq.mono Hw2.out.size); clear hbq zz; go_wp2_with fail; refine wpAny_ready (rs := [4]) (by kernel_rfl) (by simp) ?_; refine AllReady.cons rfl (fun K hK => ?_) AllReady.nil; (first | (rw [if_pos (by rfl)]; refine wp_store_row 51 (.tmp 4) (.tmp 16) rfl (w.heap.size + 1 + 1) cs rfl rfl 51 zs (HRes.out w4 Hw4.out) HSz.out hzo hone ?_) | (refine wp_store_row 51 (.tmp 4) (.tmp 16) rfl (w.heap.size + 1 + 1) cs rfl rfl 51 zs (HRes.out w4 Hw4.out) HSz.out hzo hone ?_)); refine hK _ _ ?_; clear hK K))
    all_goals
      have HFin : Hid ((w4.setRow (w.heap.size + 1 + 1) cs).heap[w.heap.size + 1 + 1]? = some (.cells cs 51 (0, 0))) := setRow_heap _ _ _ _ _ _ (HRes.out w4 Hw4.out)
      go_wp2_with fail
      refine bodyPost_ret (v := .agg cs) (results_cell_row rfl _ _ (w.heap.size + 1 + 1) 51 cs (0, 0) _ rfl HFin.out Tryd.underlying51 rfl HSz.out) rfl ⟨by rw [HCs.out], below_setRow (HB1.out.trans (Hw4.out.mono HB1.out.size)) (by omega) cs⟩

set_option maxRecDepth 100000 in
set_option maxHeartbeats 8000000 in
theorem atomAlone_1 {k f r u xp xn yp yn : Int} {ia : Option Addr} {im ic : Nat} {a b : Int} {n : Nat} {no : Bool} {w : World} (m : Int) (hm : IntKind.i64.wrap ((2 : Int) ^ n) = m) (hn : n < 24) :
    Calls Tryd.prog 23 #[.agg #[.int .i64 k, .int .i64 f, .int .i64 r, .int .i64 u, .int .i64 xp, .int .i64 xn, .int .i64 yp, .int .i64 yn, .slice ia im ic, .int .i64 a, .int .i64 b], .agg #[.int .i64 1, .int .i64 (n : Int), .bool no]] w fun e w' => e = .returned (.agg (keyVs [k, f, r, u, 0, 0, m, 0, a, b, 0, 0, 0, 0, 0, 0, 0, 0])) ∧ Below w.heap.size w w' := by
  obtain ⟨W0, hW0⟩ : ∃ W0, W0 = (((w.alloc (.cells #[.int .i64 k, .int .i64 f, .int .i64 r, .int .i64 u, .int .i64 xp, .int .i64 xn, .int .i64 yp, .int .i64 yn, .slice ia im ic, .int .i64 a, .int .i64 b] 32)).alloc (.cells #[.int .i64 1, .int .i64 (n : Int), .bool no] 49)).alloc (.cells #[.int .i64 0, .int .i64 0, .int .i64 0, .int .i64 0, .int .i64 0, .int .i64 0, .int .i64 0, .int .i64 0, .int .i64 0, .int .i64 0, .int .i64 0, .int .i64 0, .int .i64 0, .int .i64 0, .int .i64 0, .int .i64 0, .int .i64 0, .int .i64 0] 51)).alloc (.cells #[.int .i64 0, .int .i64 0, .int .i64 0, .int .i64 0, .int .i64 0, .int .i64 0, .int .i64 0, .int .i64 0, .int .i64 0, .int .i64 0, .int .i64 0, .int .i64 0] 68) := ⟨_, rfl⟩
  have HW0 : Hid (W0 = (((w.alloc (.cells #[.int .i64 k, .int .i64 f, .int .i64 r, .int .i64 u, .int .i64 xp, .int .i64 xn, .int .i64 yp, .int .i64 yn, .slice ia im ic, .int .i64 a, .int .i64 b] 32)).alloc (.cells #[.int .i64 1, .int .i64 (n : Int), .bool no] 49)).alloc (.cells #[.int .i64 0, .int .i64 0, .int .i64 0, .int .i64 0, .int .i64 0, .int .i64 0, .int .i64 0, .int .i64 0, .int .i64 0, .int .i64 0, .int .i64 0, .int .i64 0, .int .i64 0, .int .i64 0, .int .i64 0, .int .i64 0, .int .i64 0, .int .i64 0] 51)).alloc (.cells #[.int .i64 0, .int .i64 0, .int .i64 0, .int .i64 0, .int .i64 0, .int .i64 0, .int .i64 0, .int .i64 0, .int .i64 0, .int .i64 0, .int .i64 0, .int .i64 0] 68)) := hW0
  have hs0 : w.heap.size + 4 ≤ W0.heap.size := by rw [hW0]; simp
  have hb0 : Below w.heap.size w W0 := by rw [hW0]; exact ((((Below.refl _ _).alloc (Nat.le_refl _) _).alloc (by simp) _).alloc (by simp; omega) _).alloc (by simp; omega) _
  have HB0 : Hid (Below w.heap.size w W0) := hb0
  have hbp : W0.heap[w.heap.size + 1 + 1 + 1]? = some (.cells #[.int .i64 0, .int .i64 0, .int .i64 0, .int .i64 0, .int .i64 0, .int .i64 0, .int .i64 0, .int .i64 0, .int .i64 0, .int .i64 0, .int .i64 0, .int .i64 0] 68 (0, 0)) := by
    have e := World.alloc_heap_new (((w.alloc (.cells #[.int .i64 k, .int .i64 f, .int .i64 r, .int .i64 u, .int .i64 xp, .int .i64 xn, .int .i64 yp, .int .i64 yn, .slice ia im ic, .int .i64 a, .int .i64 b] 32)).alloc (.cells #[.int .i64 1, .int .i64 (n : Int), .bool no] 49)).alloc (.cells #[.int .i64 0, .int .i64 0, .int .i64 0, .int .i64 0, .int .i64 0, .int .i64 0, .int .i64 0, .int .i64 0, .int .i64 0, .int .i64 0, .int .i64 0, .int .i64 0, .int .i64 0, .int .i64 0, .int .i64 0, .int .i64 0, .int .i64 0, .int .i64 0] 51)) (.cells #[.int .i64 0, .int .i64 0, .int .i64 0, .int .i64 0, .int .i64 0, .int .i64 0, .int .i64 0, .int .i64 0, .int .i64 0, .int .i64 0, .int .i64 0, .int .i64 0] 68)
    rw [World.size_alloc, World.size_alloc, World.size_alloc] at e
    rw [hW0]; exact e
  have hbl : W0.heap[w.heap.size + 1]? = some (.cells #[.int .i64 1, .int .i64 (n : Int), .bool no] 49 (0, 0)) := by
    have e := World.alloc_heap_new (w.alloc (.cells #[.int .i64 k, .int .i64 f, .int .i64 r, .int .i64 u, .int .i64 xp, .int .i64 xn, .int .i64 yp, .int .i64 yn, .slice ia im ic, .int .i64 a, .int .i64 b] 32)) (.cells #[.int .i64 1, .int .i64 (n : Int), .bool no] 49)
    rw [World.size_alloc] at e
    rw [hW0, Below.heap_alloc _ _ _ (by simp; try omega), Below.heap_alloc _ _ _ (by simp)]
    exact e
  have hbk : BoxK 32 W0 w.heap.size k f r u xp xn yp yn (.slice ia im ic) a b := by
    rw [hW0]
    exact (((BoxK.new _ w _ _ _ _ _ _ _ _ _ _ _).below ((Below.refl _ _).alloc (Nat.le_refl _) _) (by simp)).below ((Below.refl _ _).alloc (Nat.le_refl _) _) (by simp; omega)).below ((Below.refl _ _).alloc (Nat.le_refl _) _) (by simp; omega)
  obtain ⟨zs, hzs⟩ : ∃ zs : Array Value, zs = #[.int .i64 0, .int .i64 0, .int .i64 0, .int .i64 0, .int .i64 0, .int .i64 0, .int .i64 0, .int .i64 0, .int .i64 0, .int .i64 0, .int .i64 0, .int .i64 0, .int .i64 0, .int .i64 0, .int .i64 0, .int .i64 0, .int .i64 0, .int .i64 0] := ⟨_, rfl⟩
  have hr : W0.heap[w.heap.size + 1 + 1]? = some (.cells zs 51 (0, 0)) := by
    have e := World.alloc_heap_new ((w.alloc (.cells #[.int .i64 k, .int .i64 f, .int .i64 r, .int .i64 u, .int .i64 xp, .int .i64 xn, .int .i64 yp, .int .i64 yn, .slice ia im ic, .int .i64 a, .int .i64 b] 32)).alloc (.cells #[.int .i64 1, .int .i64 (n : Int), .bool no] 49)) (.cells #[.int .i64 0, .int .i64 0, .int .i64 0, .int .i64 0, .int .i64 0, .int .i64 0, .int .i64 0, .int .i64 0, .int .i64 0, .int .i64 0, .int .i64 0, .int .i64 0, .int .i64 0, .int .i64 0, .int .i64 0, .int .i64 0, .int .i64 0, .int .i64 0] 51)
    rw [World.size_alloc, World.size_alloc] at e
    rw [hW0, Below.heap_alloc _ _ _ (by simp), hzs]
    exact e
  have l0 : W0.cell? ⟨w.heap.size + 1, 0, none⟩ = some (.int .i64 1) := by simp [World.cell?, hbl]
  have l1 : W0.cell? ⟨w.heap.size + 1, 1, none⟩ = some (.int .i64 (n : Int)) := by simp [World.cell?, hbl]
  have c0 : W0.cell? ⟨w.heap.size + 1 + 1 + 1, 2, none⟩ = some (.int .i64 0) := by simp [World.cell?, hbp]
  have f0 : W0.frozen? ⟨w.heap.size + 1 + 1 + 1, 2, none⟩ = false := by simp [World.frozen?, hbp]
  obtain ⟨W1, hW1⟩ : ∃ W1, W1 = W0.drew.setCell ⟨w.heap.size + 1 + 1 + 1, 2, none⟩ (.int .i64 m) := ⟨_, rfl⟩
  have HW1 : Hid (W1 = W0.drew.setCell ⟨w.heap.size + 1 + 1 + 1, 2, none⟩ (.int .i64 m)) := hW1
  have hs1 : W0.heap.size ≤ W1.heap.size := by rw [hW1]; simp
  have HB1 : Hid (Below w.heap.size w W1) := by unfold Hid; rw [hW1]; exact (hb0.drew).setCell (p := ⟨w.heap.size + 1 + 1 + 1, 2, none⟩) (by show w.heap.size ≤ w.heap.size + 1 + 1 + 1; omega) _
  have hbp1 : W1.heap[w.heap.size + 1 + 1 + 1]? = some (.cells #[.int .i64 0, .int .i64 0, .int .i64 m, .int .i64 0, .int .i64 0, .int .i64 0, .int .i64 0, .int .i64 0, .int .i64 0, .int .i64 0, .int .i64 0, .int .i64 0] 68 (0, 0)) := by rw [hW1]; exact heap_setCell_same _ _ _ _ _ _ hbp
  have hbk1 : BoxK 32 W1 w.heap.size k f r u xp xn yp yn (.slice ia im ic) a b := by rw [hW1]; exact (Below.heap_setCell _ _ _ _ (by simp; omega)).trans hbk
  have hr1 : W1.heap[w.heap.size + 1 + 1]? = some (.cells zs 51 (0, 0)) := by rw [hW1]; exact (Below.heap_setCell _ _ _ _ (by simp)).trans hr
  have HSat : Hid (∀ V, Below W1.heap.size W1 V → (V.cell? ⟨w.heap.size, 0, none⟩ = some (.int .i64 k) ∧ V.cell? ⟨w.heap.size, 1, none⟩ = some (.int .i64 f) ∧ V.cell? ⟨w.heap.size, 2, none⟩ = some (.int .i64 r) ∧ V.cell? ⟨w.heap.size, 3, none⟩ = some (.int .i64 u) ∧ V.cell? ⟨w.heap.size, 4, none⟩ = some (.int .i64 xp) ∧ V.cell? ⟨w.heap.size, 5, none⟩ = some (.int .i64 xn) ∧ V.cell? ⟨w.heap.size, 6, none⟩ = some (.int .i64 yp) ∧ V.cell? ⟨w.heap.size, 7, none⟩ = some (.int .i64 yn) ∧ V.cell? ⟨w.heap.size, 8, none⟩ = some (.slice ia im ic) ∧ V.cell? ⟨w.heap.size, 9, none⟩ = some (.int .i64 a) ∧ V.cell? ⟨w.heap.size, 10, none⟩ = some (.int .i64 b)) ∧ (V.cell? ⟨w.heap.size + 1 + 1 + 1, 0, none⟩ = some (.int .i64 0) ∧ V.cell? ⟨w.heap.size + 1 + 1 + 1, 1, none⟩ = some (.int .i64 0) ∧ V.cell? ⟨w.heap.size + 1 + 1 + 1, 2, none⟩ = some (.int .i64 m) ∧ V.cell? ⟨w.heap.size + 1 + 1 + 1, 3, none⟩ = some (.int .i64 0) ∧ V.cell? ⟨w.heap.size + 1 + 1 + 1, 4, none⟩ = some (.int .i64 0) ∧ V.cell? ⟨w.heap.size + 1 + 1 + 1, 5, none⟩ = some (.int .i64 0) ∧ V.cell? ⟨w.heap.size + 1 + 1 + 1, 6, none⟩ = some (.int .i64 0) ∧ V.cell? ⟨w.heap.size + 1 + 1 + 1, 7, none⟩ = some (.int .i64 0) ∧ V.cell? ⟨w.heap.size + 1 + 1 + 1, 8, none⟩ = some (.int .i64 0) ∧ V.cell? ⟨w.heap.size + 1 + 1 + 1, 9, none⟩ = some (.int .i64 0) ∧ V.cell? ⟨w.heap.size + 1 + 1 + 1, 10, none⟩ = some (.int .i64 0) ∧ V.cell? ⟨w.heap.size + 1 + 1 + 1, 11, none⟩ = some (.int .i64 0))) := fun V hV => by
    have hp := (hV.block (w.heap.size + 1 + 1 + 1) (by omega)).trans hbp1
    refine ⟨(hbk1.below hV (by omega)).cells, ?_⟩
    refine ⟨?_, ?_, ?_, ?_, ?_, ?_, ?_, ?_, ?_, ?_, ?_, ?_⟩ <;> simp [World.cell?, hp]
  have HRes : Hid (∀ V, Below W1.heap.size W1 V → V.heap[w.heap.size + 1 + 1]? = some (.cells zs 51 (0, 0))) := fun V hV => (hV.block _ (by omega)).trans hr1
  have H1d : Hid (Below W1.heap.size W1 W1.drew) := (Below.refl _ _).drew
  obtain ⟨cs, hcs⟩ : ∃ cs : Array Value, cs = keyVs [k, f, r, u, 0, 0, m, 0, a, b, 0, 0, 0, 0, 0, 0, 0, 0] := ⟨_, rfl⟩
  have HCs : Hid (cs = keyVs [k, f, r, u, 0, 0, m, 0, a, b, 0, 0, 0, 0, 0, 0, 0, 0]) := hcs
  have HHd : Hid (∀ V, Calls Tryd.prog 41 #[.agg #[.int .i64 k, .int .i64 f, .int .i64 r, .int .i64 u, .int .i64 xp, .int .i64 xn, .int .i64 yp, .int .i64 yn, .slice ia im ic, .int .i64 a, .int .i64 b]] V fun e w' => e = .returned (.agg #[.int .i64 k, .int .i64 f, .int .i64 r, .int .i64 u, .int .i64 a, .int .i64 b]) ∧ Below V.heap.size V w') := fun V => headOf_any rfl V
  have HJk : Hid (∀ V, Calls Tryd.prog 40 #[.agg #[.int .i64 k, .int .i64 f, .int .i64 r, .int .i64 u, .int .i64 a, .int .i64 b], .agg #[.int .i64 0, .int .i64 0, .int .i64 m, .int .i64 0, .int .i64 0, .int .i64 0, .int .i64 0, .int .i64 0, .int .i64 0, .int .i64 0, .int .i64 0, .int .i64 0]] V fun e w' => e = .returned (.agg cs) ∧ Below V.heap.size V w') := fun V => (joinKey_any k f r u a b 0 0 m 0 0 0 0 0 0 0 0 0 V).mono fun e w' ⟨he, hb⟩ => ⟨by rw [he, hcs]; rfl, hb⟩
  have HSz : Hid ((Tryd.prog.info? 51).map (·.size) = some cs.size) := by unfold Hid; rw [hcs, keyVs_size]; exact Tryd.sizeKey
  have hzo : zs.size = cs.size := by rw [hzs, hcs, keyVs_size]; rfl
  have hone : cs.all (·.oneCell') = true := by rw [hcs]; exact keyVs_one _
  clear hb0 hW0 hzs hr hbp hbl hbk hcs hW1 hbp1 hbk1 hr1
  go_enter Tryd.func23, Tryd.ntmps23
  go_upto_region 2 with fail
  rw [← HW0.out]
  go_cut [] (fun W => W = W1)
  case first =>
    go_region
    all_goals
      go_wp2_with fail
      go_meet
      case rel => exact HW1.out.symm
  case rest =>
    rw [hcut]
    have zz := HSat.out W1 (Below.refl _ _)
    clear l0 l1 c0 f0
    go_upto_region 3 with fail
    go_region_with (first
      | (go_at_call 41; refine (HHd.out W1.drew).mono ?_; rintro e w2 ⟨rfl, hbq⟩; have Hw2 : Hid (Below W1.heap.size W1 w2) := H1d.out.trans (hbq.mono H1d.out.size); clear hbq zz; have zz := HSat.out w2 Hw2.out)
      | (go_at_call 40; refine (HJk.out w2).mono ?_; rintro e w4 ⟨rfl, hbq⟩; have Hw4 : Hid (Below W1.heap.size W1 w4) := Hw2.out.trans (hbq.mono Hw2.out.size); clear hbq zz; go_wp2_with fail; refine wpAny_ready (rs := [4]) (by kernel_rfl) (by simp) ?_; refine AllReady.cons rfl (fun K hK => ?_) AllReady.nil; (first | (rw [if_pos (by rfl)]; refine wp_store_row 51 (.tmp 4) (.tmp 16) rfl (w.heap.size + 1 + 1) cs rfl rfl 51 zs (HRes.out w4 Hw4.out) HSz.out hzo hone ?_) | (refine wp_store_row 51 (.tmp 4) (.tmp 16) rfl (w.heap.size + 1 + 1) cs rfl rfl 51 zs (HRes.out w4 Hw4.out) HSz.out hzo hone ?_)); refine hK _ _ ?_; clear hK K))
    all_goals
      have HFin : Hid ((w4.setRow (w.heap.size + 1 + 1) cs).heap[w.heap.size + 1 + 1]? = some (.cells cs 51 (0, 0))) := setRow_heap _ _ _ _ _ _ (HRes.out w4 Hw4.out)
      go_wp2_with fail
      refine bodyPost_ret (v := .agg cs) (results_cell_row rfl _ _ (w.heap.size + 1 + 1) 51 cs (0, 0) _ rfl HFin.out Tryd.underlying51 rfl HSz.out) rfl ⟨by rw [HCs.out], below_setRow (HB1.out.trans (Hw4.out.mono HB1.out.size)) (by omega) cs⟩

end Go.Proofs.YtcaljggnihinaaaDoor
