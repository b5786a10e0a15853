/- The key of a clause, as the program lays it (keyOf): a contract. -/
import Derived.Test.YtbnhdhdldcbokaaCmpKey2
import Derived.Deep.RegionHeld3
import Derived.Deep.DeepCutAuto
namespace Go.Proofs.Ytbnhdhdldcbokaa
open Go.RowKit Go.Deep
set_option linter.unusedVariables false

/-- The eighteen numbers by which clauses are held against each other. -/
def keyI (k f r u xp xn yp yn : Int) (xs : List (Int × Int)) (a b : Int) : List Int := [k, f, r, u, xp, xn, yp, yn, a, b, (xs.getD 0 (0, 0)).1, (xs.getD 0 (0, 0)).2, (xs.getD 1 (0, 0)).1, (xs.getD 1 (0, 0)).2, (xs.getD 2 (0, 0)).1, (xs.getD 2 (0, 0)).2, (xs.getD 3 (0, 0)).1, (xs.getD 3 (0, 0)).2]
def keyVs (l : List Int) : Array Value := (l.map (Value.int .i64)).toArray

theorem keyVs_size (l : List Int) : (keyVs l).size = l.length := by simp [keyVs]
theorem keyVs_one (l : List Int) : (keyVs l).all (·.oneCell') = true := by
  rw [keyVs, Array.all_eq_true_iff_forall_mem]
  intro v hv
  simp only [List.mem_toArray, List.mem_map] at hv
  obtain ⟨z, _, rfl⟩ := hv
  rfl

set_option maxRecDepth 100000 in
set_option maxHeartbeats 8000000 in
theorem keyOf_any {k f r u xp xn yp yn : Int} {ia : Option Addr} {im ic : Nat} {a b : Int} {xs : List (Int × Int)} {w : World} {lo hi : Nat} (h : RP lo hi w ia im ic xs) (hhi : hi ≤ w.heap.size) (him : im = 0 ∨ im = 4) :
    Calls Try.prog 43 #[.agg #[.int .i64 k, .int .i64 f, .int .i64 r, .int .i64 u, .int .i64 xp, .int .i64 xn, .int .i64 yp, .int .i64 yn, .slice ia im ic, .int .i64 a, .int .i64 b]] w fun e w' => e = .returned (.agg (keyVs (keyI k f r u xp xn yp yn xs a b))) ∧ Below w.heap.size w w' := by
  obtain ⟨W0, hW0⟩ : ∃ W0, W0 = (w.alloc (.cells #[.int .i64 k, .int .i64 f, .int .i64 r, .int .i64 u, .int .i64 xp, .int .i64 xn, .int .i64 yp, .int .i64 yn, .slice ia im ic, .int .i64 a, .int .i64 b] 37)).alloc (.cells #[.int .i64 0, .int .i64 0, .int .i64 0, .int .i64 0, .int .i64 0, .int .i64 0, .int .i64 0, .int .i64 0, .int .i64 0, .int .i64 0, .int .i64 0, .int .i64 0, .int .i64 0, .int .i64 0, .int .i64 0, .int .i64 0, .int .i64 0, .int .i64 0] 75) := ⟨_, rfl⟩
  have HW0 : Hid (W0 = (w.alloc (.cells #[.int .i64 k, .int .i64 f, .int .i64 r, .int .i64 u, .int .i64 xp, .int .i64 xn, .int .i64 yp, .int .i64 yn, .slice ia im ic, .int .i64 a, .int .i64 b] 37)).alloc (.cells #[.int .i64 0, .int .i64 0, .int .i64 0, .int .i64 0, .int .i64 0, .int .i64 0, .int .i64 0, .int .i64 0, .int .i64 0, .int .i64 0, .int .i64 0, .int .i64 0, .int .i64 0, .int .i64 0, .int .i64 0, .int .i64 0, .int .i64 0, .int .i64 0] 75)) := hW0
  have hs0 : W0.heap.size = w.heap.size + 2 := by rw [hW0]; simp
  have hb0 : Below w.heap.size w W0 := by rw [hW0]; exact ((Below.refl _ _).alloc (Nat.le_refl _) _).alloc (by simp) _
  have HB0 : Hid (Below w.heap.size w W0) := hb0
  obtain ⟨zs, hzs⟩ : ∃ zs : Array Value, zs = #[.int .i64 0, .int .i64 0, .int .i64 0, .int .i64 0, .int .i64 0, .int .i64 0, .int .i64 0, .int .i64 0, .int .i64 0, .int .i64 0, .int .i64 0, .int .i64 0, .int .i64 0, .int .i64 0, .int .i64 0, .int .i64 0, .int .i64 0, .int .i64 0] := ⟨_, rfl⟩
  have hr : W0.heap[w.heap.size + 1]? = some (.cells zs 75 (0, 0)) := by
    have e := World.alloc_heap_new (w.alloc (.cells #[.int .i64 k, .int .i64 f, .int .i64 r, .int .i64 u, .int .i64 xp, .int .i64 xn, .int .i64 yp, .int .i64 yn, .slice ia im ic, .int .i64 a, .int .i64 b] 37)) (.cells #[.int .i64 0, .int .i64 0, .int .i64 0, .int .i64 0, .int .i64 0, .int .i64 0, .int .i64 0, .int .i64 0, .int .i64 0, .int .i64 0, .int .i64 0, .int .i64 0, .int .i64 0, .int .i64 0, .int .i64 0, .int .i64 0, .int .i64 0, .int .i64 0] 75)
    rw [World.size_alloc] at e
    rw [hW0, hzs]
    exact e
  have hbx : BoxK 37 W0 w.heap.size k f r u xp xn yp yn (.slice ia im ic) a b := by rw [hW0]; exact (BoxK.new _ w _ _ _ _ _ _ _ _ _ _ _).below ((Below.refl _ _).alloc (Nat.le_refl _) _) (by simp)
  have HSat : Hid (∀ V, Below W0.heap.size W0 V → V.cell? ⟨w.heap.size, 0, none⟩ = some (.int .i64 k) ∧ V.cell? ⟨w.heap.size, 1, none⟩ = some (.int .i64 f) ∧ V.cell? ⟨w.heap.size, 2, none⟩ = some (.int .i64 r) ∧ V.cell? ⟨w.heap.size, 3, none⟩ = some (.int .i64 u) ∧ V.cell? ⟨w.heap.size, 4, none⟩ = some (.int .i64 xp) ∧ V.cell? ⟨w.heap.size, 5, none⟩ = some (.int .i64 xn) ∧ V.cell? ⟨w.heap.size, 6, none⟩ = some (.int .i64 yp) ∧ V.cell? ⟨w.heap.size, 7, none⟩ = some (.int .i64 yn) ∧ V.cell? ⟨w.heap.size, 8, none⟩ = some (.slice ia im ic) ∧ V.cell? ⟨w.heap.size, 9, none⟩ = some (.int .i64 a) ∧ V.cell? ⟨w.heap.size, 10, none⟩ = some (.int .i64 b)) := fun V hV => (hbx.below hV (by omega)).cells
  have HRes : Hid (∀ V, Below W0.heap.size W0 V → V.heap[w.heap.size + 1]? = some (.cells zs 75 (0, 0))) := fun V hV => (hV.block _ (by omega)).trans hr
  have H0d : Hid (Below W0.heap.size W0 W0.drew) := (Below.refl _ _).drew
  obtain ⟨i0, hi0⟩ : ∃ z, z = (xs.getD 0 (0, 0)).1 := ⟨_, rfl⟩
  obtain ⟨i1, hi1⟩ : ∃ z, z = (xs.getD 0 (0, 0)).2 := ⟨_, rfl⟩
  obtain ⟨i2, hi2⟩ : ∃ z, z = (xs.getD 1 (0, 0)).1 := ⟨_, rfl⟩
  obtain ⟨i3, hi3⟩ : ∃ z, z = (xs.getD 1 (0, 0)).2 := ⟨_, rfl⟩
  obtain ⟨i4, hi4⟩ : ∃ z, z = (xs.getD 2 (0, 0)).1 := ⟨_, rfl⟩
  obtain ⟨i5, hi5⟩ : ∃ z, z = (xs.getD 2 (0, 0)).2 := ⟨_, rfl⟩
  obtain ⟨i6, hi6⟩ : ∃ z, z = (xs.getD 3 (0, 0)).1 := ⟨_, rfl⟩
  obtain ⟨i7, hi7⟩ : ∃ z, z = (xs.getD 3 (0, 0)).2 := ⟨_, rfl⟩
  obtain ⟨cs, hcs⟩ : ∃ cs : Array Value, cs = keyVs (keyI k f r u xp xn yp yn xs a b) := ⟨_, rfl⟩
  have HCs : Hid (cs = keyVs (keyI k f r u xp xn yp yn xs a b)) := hcs
  have HHd : Hid (∀ V, Below W0.heap.size W0 V → Calls Try.prog 40 #[.agg #[.int .i64 k, .int .i64 f, .int .i64 r, .int .i64 u, .int .i64 xp, .int .i64 xn, .int .i64 yp, .int .i64 yn, .slice ia im ic, .int .i64 a, .int .i64 b]] V fun e w' => e = .returned (.agg #[.int .i64 k, .int .i64 f, .int .i64 r, .int .i64 u, .int .i64 a, .int .i64 b]) ∧ Below V.heap.size V w') := fun V hV => headOf_any rfl V
  have HPt : Hid (∀ V, Below W0.heap.size W0 V → Calls Try.prog 39 #[.agg #[.int .i64 k, .int .i64 f, .int .i64 r, .int .i64 u, .int .i64 xp, .int .i64 xn, .int .i64 yp, .int .i64 yn, .slice ia im ic, .int .i64 a, .int .i64 b]] V fun e w' => e = .returned (.agg #[.int .i64 xp, .int .i64 xn, .int .i64 yp, .int .i64 yn, .int .i64 i0, .int .i64 i1, .int .i64 i2, .int .i64 i3, .int .i64 i4, .int .i64 i5, .int .i64 i6, .int .i64 i7]) ∧ Below V.heap.size V w') := fun V hV => (partsOf_any ((h.below hb0 hhi).below hV (by omega)) (by have := hV.size; omega) him).mono fun e w' ⟨he, hb⟩ => ⟨by rw [he]; rw [hi0, hi1, hi2, hi3, hi4, hi5, hi6, hi7]; rfl, hb⟩
  have HJk : Hid (∀ V, Calls Try.prog 55 #[.agg #[.int .i64 k, .int .i64 f, .int .i64 r, .int .i64 u, .int .i64 a, .int .i64 b], .agg #[.int .i64 xp, .int .i64 xn, .int .i64 yp, .int .i64 yn, .int .i64 i0, .int .i64 i1, .int .i64 i2, .int .i64 i3, .int .i64 i4, .int .i64 i5, .int .i64 i6, .int .i64 i7]] V fun e w' => e = .returned (.agg cs) ∧ Below V.heap.size V w') := fun V => (joinKey_any k f r u a b xp xn yp yn i0 i1 i2 i3 i4 i5 i6 i7 V).mono fun e w' ⟨he, hb⟩ => ⟨by rw [he, hcs]; rw [hi0, hi1, hi2, hi3, hi4, hi5, hi6, hi7]; rfl, hb⟩
  have HSz : Hid ((Try.prog.info? 75).map (·.size) = some cs.size) := by unfold Hid; rw [hcs, keyVs_size]; exact Try.sizeKey
  have hzo : zs.size = cs.size := by rw [hzs, hcs, keyVs_size]; rfl
  have hone : cs.all (·.oneCell') = true := by rw [hcs]; exact keyVs_one _
  have hs1 : w.heap.size + 1 < W0.heap.size := by omega
  clear h hhi him hb0 hW0 hzs hr hbx hcs hs0 hi0 hi1 hi2 hi3 hi4 hi5 hi6 hi7
  go_enter Try.func43, Try.ntmps43
  go_upto_region 1 with fail
  rw [← HW0.out]
  have zz := HSat.out W0 (Below.refl _ _)
  first | go_region_with (first
    | (go_at_call 40; first | (refine (HHd.out W0.drew H0d.out).mono ?_; rintro e w1 ⟨rfl, hbq⟩; have Hw1 : Hid (Below W0.heap.size W0 w1) := H0d.out.trans (hbq.mono H0d.out.size); clear hbq zz; have zz := HSat.out w1 Hw1.out) | (refine (HHd.out w3 Hw3.out).mono ?_; rintro e w2 ⟨rfl, hbq⟩; have Hw2 : Hid (Below W0.heap.size W0 w2) := Hw3.out.trans (hbq.mono Hw3.out.size); clear hbq zz; have zz := HSat.out w2 Hw2.out))
    | (go_at_call 39; first | (refine (HPt.out w1 Hw1.out).mono ?_; rintro e w2 ⟨rfl, hbq⟩; have Hw2 : Hid (Below W0.heap.size W0 w2) := Hw1.out.trans (hbq.mono Hw1.out.size); clear hbq zz; have zz := HSat.out w2 Hw2.out) | (refine (HPt.out W0.drew H0d.out).mono ?_; rintro e w3 ⟨rfl, hbq⟩; have Hw3 : Hid (Below W0.heap.size W0 w3) := H0d.out.trans (hbq.mono H0d.out.size); clear hbq zz; have zz := HSat.out w3 Hw3.out))
    | (go_at_call 55; refine (HJk.out w2).mono ?_; rintro e w4 ⟨rfl, hbq⟩; have Hw4 : Hid (Below W0.heap.size W0 w4) := Hw2.out.trans (hbq.mono Hw2.out.size); clear hbq zz; go_wp2_with fail; refine wpAny_ready (rs := [5]) (by kernel_rfl) (by simp) ?_; refine AllReady.cons rfl (fun K hK => ?_) AllReady.nil; (first | (rw [if_pos (by rfl)]; refine wp_store_row 75 (.tmp 2) (.tmp 7) rfl (w.heap.size + 1) cs rfl rfl 75 zs (HRes.out w4 Hw4.out) HSz.out hzo hone ?_) | (refine wp_store_row 75 (.tmp 2) (.tmp 7) rfl (w.heap.size + 1) cs rfl rfl 75 zs (HRes.out w4 Hw4.out) HSz.out hzo hone ?_)); refine hK _ _ ?_; clear hK K)) | fail
  all_goals
    have HFin : Hid ((w4.setRow (w.heap.size + 1) cs).heap[w.heap.size + 1]? = some (.cells cs 75 (0, 0))) := setRow_heap _ _ _ _ _ _ (HRes.out w4 Hw4.out)
    go_wp2_with fail
    refine bodyPost_ret (v := .agg cs) (results_cell_row rfl _ _ (w.heap.size + 1) 75 cs (0, 0) _ rfl HFin.out Try.underlying75 rfl HSz.out) rfl ⟨by rw [HCs.out], below_setRow (HB0.out.trans (Hw4.out.mono HB0.out.size)) (by omega) cs⟩

end Go.Proofs.Ytbnhdhdldcbokaa
