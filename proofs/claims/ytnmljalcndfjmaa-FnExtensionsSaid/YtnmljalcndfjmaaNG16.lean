/- Several texts in one: WdScene0, InSetA. -/
import Derived.Test.YtnmljalcndfjmaaNG15
import Derived.Test.YtnmljalcndfjmaaNG14
import Derived.Test.YtnmljalcndfjmaaNG3
import Derived.Deep.RegionWith
namespace Go.Proofs.Ytnmljalcndfjmaa

section
open Go.RowKit

def whichV (b : Bool) (u v : Value) : Value := if b = true then u else v

def BoxS (W : World) (p : Nat) (v0 v1 v2 v3 v4 v5 v6 v7 v8 v9 : Value) : Prop := W.heap[p]? = some (.cells #[v0, v1, v2, v3, v4, v5, v6, v7, v8, v9] 47 (0, 0))
theorem BoxS.new (W : World) (v0 v1 v2 v3 v4 v5 v6 v7 v8 v9 : Value) : BoxS (W.alloc (.cells #[v0, v1, v2, v3, v4, v5, v6, v7, v8, v9] 47)) W.heap.size v0 v1 v2 v3 v4 v5 v6 v7 v8 v9 := World.alloc_heap_new W _
theorem BoxS.below {W W' : World} {p B : Nat} {v0 v1 v2 v3 v4 v5 v6 v7 v8 v9 : Value} (h : BoxS W p v0 v1 v2 v3 v4 v5 v6 v7 v8 v9) (hb : Below B W W') (hB : p < B) : BoxS W' p v0 v1 v2 v3 v4 v5 v6 v7 v8 v9 := (hb.block p hB).trans h
theorem BoxS.lt {W : World} {p : Nat} {v0 v1 v2 v3 v4 v5 v6 v7 v8 v9 : Value} (h : BoxS W p v0 v1 v2 v3 v4 v5 v6 v7 v8 v9) : p < W.heap.size := (Array.getElem?_eq_some_iff.1 h).1
theorem BoxS.cells {W : World} {p : Nat} {v0 v1 v2 v3 v4 v5 v6 v7 v8 v9 : Value} (h : BoxS W p v0 v1 v2 v3 v4 v5 v6 v7 v8 v9) : W.cell? ⟨p, 0, none⟩ = some v0 ∧ W.cell? ⟨p, 1, none⟩ = some v1 ∧ W.cell? ⟨p, 2, none⟩ = some v2 ∧ W.cell? ⟨p, 3, none⟩ = some v3 ∧ W.cell? ⟨p, 4, none⟩ = some v4 ∧ W.cell? ⟨p, 5, none⟩ = some v5 ∧ W.cell? ⟨p, 6, none⟩ = some v6 ∧ W.cell? ⟨p, 7, none⟩ = some v7 ∧ W.cell? ⟨p, 8, none⟩ = some v8 ∧ W.cell? ⟨p, 9, none⟩ = some v9 := by
  unfold BoxS at h
  refine ⟨?_, ?_, ?_, ?_, ?_, ?_, ?_, ?_, ?_, ?_⟩ <;> simp [World.cell?, h]
theorem BoxS.frz {W : World} {p : Nat} {v0 v1 v2 v3 v4 v5 v6 v7 v8 v9 : Value} (h : BoxS W p v0 v1 v2 v3 v4 v5 v6 v7 v8 v9) (o : Nat) : W.frozen? ⟨p, o, none⟩ = false := by
  unfold BoxS at h
  simp [World.frozen?, h]
theorem BoxS.at {W : World} {p : Nat} {v0 v1 v2 v3 v4 v5 v6 v7 v8 v9 : Value} (h : BoxS W p v0 v1 v2 v3 v4 v5 v6 v7 v8 v9) (i : Nat) (v : Value) : (W.setCell ⟨p, i, none⟩ v).heap[p]? = some (.cells (#[v0, v1, v2, v3, v4, v5, v6, v7, v8, v9].setIfInBounds i v) 47 (0, 0)) := heap_setCell_same W p i _ _ v h

def set10 (W : World) (p : Nat) (u0 u1 u2 u3 u4 u5 u6 u7 u8 u9 : Value) : World := (((((((((W.setCell ⟨p, 0, none⟩ u0).setCell ⟨p, 1, none⟩ u1).setCell ⟨p, 2, none⟩ u2).setCell ⟨p, 3, none⟩ u3).setCell ⟨p, 4, none⟩ u4).setCell ⟨p, 5, none⟩ u5).setCell ⟨p, 6, none⟩ u6).setCell ⟨p, 7, none⟩ u7).setCell ⟨p, 8, none⟩ u8).setCell ⟨p, 9, none⟩ u9
theorem below_set10 {B : Nat} {w W : World} (h : Below B w W) {p : Nat} (hp : B ≤ p) (u0 u1 u2 u3 u4 u5 u6 u7 u8 u9 : Value) : Below B w (set10 W p u0 u1 u2 u3 u4 u5 u6 u7 u8 u9) := by
  unfold set10
  exact (((((((((h.setCell (p := ⟨p, 0, none⟩) hp _).setCell (p := ⟨p, 1, none⟩) hp _).setCell (p := ⟨p, 2, none⟩) hp _).setCell (p := ⟨p, 3, none⟩) hp _).setCell (p := ⟨p, 4, none⟩) hp _).setCell (p := ⟨p, 5, none⟩) hp _).setCell (p := ⟨p, 6, none⟩) hp _).setCell (p := ⟨p, 7, none⟩) hp _).setCell (p := ⟨p, 8, none⟩) hp _).setCell (p := ⟨p, 9, none⟩) hp _
theorem BoxS.set10 {W : World} {p : Nat} {v0 v1 v2 v3 v4 v5 v6 v7 v8 v9 : Value} (h : BoxS W p v0 v1 v2 v3 v4 v5 v6 v7 v8 v9) (u0 u1 u2 u3 u4 u5 u6 u7 u8 u9 : Value) : BoxS (set10 W p u0 u1 u2 u3 u4 u5 u6 u7 u8 u9) p u0 u1 u2 u3 u4 u5 u6 u7 u8 u9 := by
  unfold Go.Proofs.Ytnmljalcndfjmaa.set10
  have h0 : BoxS _ p u0 v1 v2 v3 v4 v5 v6 v7 v8 v9 := h.at 0 u0
  have h1 : BoxS _ p u0 u1 v2 v3 v4 v5 v6 v7 v8 v9 := h0.at 1 u1
  have h2 : BoxS _ p u0 u1 u2 v3 v4 v5 v6 v7 v8 v9 := h1.at 2 u2
  have h3 : BoxS _ p u0 u1 u2 u3 v4 v5 v6 v7 v8 v9 := h2.at 3 u3
  have h4 : BoxS _ p u0 u1 u2 u3 u4 v5 v6 v7 v8 v9 := h3.at 4 u4
  have h5 : BoxS _ p u0 u1 u2 u3 u4 u5 v6 v7 v8 v9 := h4.at 5 u5
  have h6 : BoxS _ p u0 u1 u2 u3 u4 u5 u6 v7 v8 v9 := h5.at 6 u6
  have h7 : BoxS _ p u0 u1 u2 u3 u4 u5 u6 u7 v8 v9 := h6.at 7 u7
  have h8 : BoxS _ p u0 u1 u2 u3 u4 u5 u6 u7 u8 v9 := h7.at 8 u8
  exact h8.at 9 u9

set_option maxRecDepth 100000 in
set_option maxHeartbeats 2000000 in
theorem sceneOf_any {na : Option Addr} {nn nc : Nat} {sa : Option Addr} {sn sc : Nat} {ra : Option Addr} {rn rc : Nat} {la : Option Addr} {ln lc : Nat} {ia : Option Addr} {im ic : Nat} {ta : Option Addr} {tn tc : Nat} {x : WD} {w : World} {lo hi : Nat} {nx : Int} (h : RdW lo hi w na nn nc sa sn sc ra rn rc la ln lc ia im ic ta tn tc x) (hn : x.n = nx) (hhi : hi ≤ w.heap.size) :
    Calls Try.prog 14 #[.agg #[.int .i64 nx, .slice na nn nc, .slice sa sn sc, .slice ra rn rc, .slice la ln lc, .slice ia im ic, .slice ta tn tc]] w fun e w' => e = .returned (whichV (worldB x) (.tuple #[.agg #[.int .i64 nx, .slice ia im ic, .slice ta tn tc, .int .i64 nx, .slice na nn nc, .slice sa sn sc, .slice ra rn rc, .slice la ln lc, .slice ia im ic, .slice ta tn tc], .bool true]) (.tuple #[.agg #[.int .i64 0, .slice none 0 0, .slice none 0 0, .int .i64 0, .slice none 0 0, .slice none 0 0, .slice none 0 0, .slice none 0 0, .slice none 0 0, .slice none 0 0], .bool false])) ∧ Below w.heap.size w w' := by
  obtain ⟨W1, hW1⟩ : ∃ W1, W1 = (w.alloc (.cells #[.int .i64 nx, .slice na nn nc, .slice sa sn sc, .slice ra rn rc, .slice la ln lc, .slice ia im ic, .slice ta tn tc] 27)).alloc (.cells #[.int .i64 0, .slice none 0 0, .slice none 0 0, .int .i64 0, .slice none 0 0, .slice none 0 0, .slice none 0 0, .slice none 0 0, .slice none 0 0, .slice none 0 0] 47) := ⟨_, rfl⟩
  have HW1 : Hid (W1 = (w.alloc (.cells #[.int .i64 nx, .slice na nn nc, .slice sa sn sc, .slice ra rn rc, .slice la ln lc, .slice ia im ic, .slice ta tn tc] 27)).alloc (.cells #[.int .i64 0, .slice none 0 0, .slice none 0 0, .int .i64 0, .slice none 0 0, .slice none 0 0, .slice none 0 0, .slice none 0 0, .slice none 0 0, .slice none 0 0] 47)) := hW1
  have hs1 : W1.heap.size = w.heap.size + 2 := by rw [hW1]; simp
  have hb0 : Below w.heap.size w W1 := by rw [hW1]; exact ((Below.refl _ _).alloc (Nat.le_refl _) _).alloc (by simp) _
  have hbx : BoxW 27 W1 w.heap.size nx (.slice na nn nc) (.slice sa sn sc) (.slice ra rn rc) (.slice la ln lc) (.slice ia im ic) (.slice ta tn tc) := by rw [hW1]; exact (BoxW.new _ w _ _ _ _ _ _ _).below ((Below.refl _ _).alloc (Nat.le_refl _) _) (by simp)
  have hsx : BoxS W1 (w.heap.size + 1) (.int .i64 0) (.slice none 0 0) (.slice none 0 0) (.int .i64 0) (.slice none 0 0) (.slice none 0 0) (.slice none 0 0) (.slice none 0 0) (.slice none 0 0) (.slice none 0 0) := by
    rw [hW1]
    have := BoxS.new (w.alloc (.cells #[.int .i64 nx, .slice na nn nc, .slice sa sn sc, .slice ra rn rc, .slice la ln lc, .slice ia im ic, .slice ta tn tc] 27)) (.int .i64 0) (.slice none 0 0) (.slice none 0 0) (.int .i64 0) (.slice none 0 0) (.slice none 0 0) (.slice none 0 0) (.slice none 0 0) (.slice none 0 0) (.slice none 0 0)
    rwa [World.size_alloc] at this
  have HAt : Hid (∀ W, Below W1.heap.size W1 W → BoxW 27 W w.heap.size nx (.slice na nn nc) (.slice sa sn sc) (.slice ra rn rc) (.slice la ln lc) (.slice ia im ic) (.slice ta tn tc)) := fun W hW => hbx.below hW (by omega)
  have HSx : Hid (∀ W, Below W1.heap.size W1 W → BoxS W (w.heap.size + 1) (.int .i64 0) (.slice none 0 0) (.slice none 0 0) (.int .i64 0) (.slice none 0 0) (.slice none 0 0) (.slice none 0 0) (.slice none 0 0) (.slice none 0 0) (.slice none 0 0)) := fun W hW => hsx.below hW (by omega)
  have HR : Hid (RdW lo hi W1 na nn nc sa sn sc ra rn rc la ln lc ia im ic ta tn tc x) := h.below hb0 hhi
  have HHi : Hid (hi ≤ W1.heap.size) := Nat.le_trans hhi hb0.size
  have HBd : Hid (∀ W, Below W1.heap.size W1 W → Below w.heap.size w W) := fun W hW => hb0.trans (hW.mono hb0.size)
  have HN : Hid (x.n = nx) := hn
  obtain ⟨z0, z1, z2, z3, z4, z5, z6⟩ := hbx.cells
  clear h hb0 hW1 hbx hsx hn
  go_enter Try.func14, Try.ntmps14
  go_upto_region 1 with fail
  rw [← HW1.out]
  go_wp2_with fail
  refine (implWorldOk_any HR.out HN.out HHi.out).mono ?_
  rintro e wA ⟨rfl, hA⟩
  have HwA : Hid (Below W1.heap.size W1 wA) := hA
  clear hA z0 z1 z2 z3 z4 z5 z6
  cases hok : worldB x
  · have hsA := HSx.out _ HwA.out
    obtain ⟨m0, m1, m2, m3, m4, m5, m6, m7, m8, m9⟩ := hsA.cells
    have mf0 := hsA.frz 0
    have mf1 := hsA.frz 1
    have mf2 := hsA.frz 2
    have mf3 := hsA.frz 3
    have mf4 := hsA.frz 4
    have mf5 := hsA.frz 5
    have mf6 := hsA.frz 6
    have mf7 := hsA.frz 7
    have mf8 := hsA.frz 8
    have mf9 := hsA.frz 9
    have HP : Hid (Below w.heap.size w (set10 wA (w.heap.size + 1) (.int .i64 0) (.slice none 0 0) (.slice none 0 0) (.int .i64 0) (.slice none 0 0) (.slice none 0 0) (.slice none 0 0) (.slice none 0 0) (.slice none 0 0) (.slice none 0 0))) := below_set10 (HBd.out _ HwA.out) (by omega) _ _ _ _ _ _ _ _ _ _
    have HSS : Hid _ := (hsA.set10 (.int .i64 0) (.slice none 0 0) (.slice none 0 0) (.int .i64 0) (.slice none 0 0) (.slice none 0 0) (.slice none 0 0) (.slice none 0 0) (.slice none 0 0) (.slice none 0 0)).cells
    simp only [set10] at HSS HP
    have hbuild : ∀ V : World, (Instr.build 47 #[]).run Try.prog V = .ok (.agg #[.int .i64 0, .slice none 0 0, .slice none 0 0, .int .i64 0, .slice none 0 0, .slice none 0 0, .slice none 0 0, .slice none 0 0, .slice none 0 0, .slice none 0 0]) V := fun V => run_build V _ _ _ (by kernel_rfl)
    clear hsA
    go_wp2_with fail
    clear m0 m1 m2 m3 m4 m5 m6 m7 m8 m9 hbuild
    obtain ⟨s0, s1, s2, s3, s4, s5, s6, s7, s8, s9⟩ := HSS.out
    refine bodyPost_ret (v := .tuple #[.agg #[.int .i64 0, .slice none 0 0, .slice none 0 0, .int .i64 0, .slice none 0 0, .slice none 0 0, .slice none 0 0, .slice none 0 0, .slice none 0 0, .slice none 0 0], .bool false]) (by simp [results, Try.results14, go_sem, s0, s1, s2, s3, s4, s5, s6, s7, s8, s9]) rfl ?_
    exact ⟨by rw [hok]; rfl, HP.out⟩
  · have HwAd : Hid (Below W1.heap.size W1 wA.drew) := HwA.out.drew
    obtain ⟨z0, z1, z2, z3, z4, z5, z6⟩ := (HAt.out _ HwA.out).cells
    have hbuild : ∀ V : World, (Instr.build 47 #[(0, .agg #[.int .i64 nx, .slice ia im ic, .slice ta tn tc]), (1, .agg #[.int .i64 nx, .slice na nn nc, .slice sa sn sc, .slice ra rn rc, .slice la ln lc, .slice ia im ic, .slice ta tn tc])]).run Try.prog V = .ok (.agg #[.int .i64 nx, .slice ia im ic, .slice ta tn tc, .int .i64 nx, .slice na nn nc, .slice sa sn sc, .slice ra rn rc, .slice la ln lc, .slice ia im ic, .slice ta tn tc]) V := fun V => run_build V _ _ _ (by kernel_rfl)
    go_upto_region 3 with fail
    first | go_region_with (go_at_call 31; refine (peopleOf_any wA.drew).mono ?_; rintro e wP ⟨rfl, hP⟩; have HwP : Hid (Below W1.heap.size W1 wP) := HwAd.out.trans (hP.mono HwAd.out.size); clear hP z0 z1 z2 z3 z4 z5 z6; obtain ⟨z0, z1, z2, z3, z4, z5, z6⟩ := (HAt.out _ HwP.out).cells; have hsA := HSx.out _ HwP.out; obtain ⟨m0, m1, m2, m3, m4, m5, m6, m7, m8, m9⟩ := hsA.cells; have mf0 := hsA.frz 0; have mf1 := hsA.frz 1; have mf2 := hsA.frz 2; have mf3 := hsA.frz 3; have mf4 := hsA.frz 4; have mf5 := hsA.frz 5; have mf6 := hsA.frz 6; have mf7 := hsA.frz 7; have mf8 := hsA.frz 8; have mf9 := hsA.frz 9; have HP : Hid (Below w.heap.size w (set10 wP (w.heap.size + 1) (.int .i64 nx) (.slice ia im ic) (.slice ta tn tc) (.int .i64 nx) (.slice na nn nc) (.slice sa sn sc) (.slice ra rn rc) (.slice la ln lc) (.slice ia im ic) (.slice ta tn tc))) := below_set10 (HBd.out _ HwP.out) (by omega) _ _ _ _ _ _ _ _ _ _; obtain ⟨Uz, hUz⟩ : ∃ Uz, Uz = set10 wP (w.heap.size + 1) (.int .i64 nx) (.slice ia im ic) (.slice ta tn tc) (.int .i64 nx) (.slice na nn nc) (.slice sa sn sc) (.slice ra rn rc) (.slice la ln lc) (.slice ia im ic) (.slice ta tn tc) := ⟨_, rfl⟩; have HU : Hid (Uz = set10 wP (w.heap.size + 1) (.int .i64 nx) (.slice ia im ic) (.slice ta tn tc) (.int .i64 nx) (.slice na nn nc) (.slice sa sn sc) (.slice ra rn rc) (.slice la ln lc) (.slice ia im ic) (.slice ta tn tc)) := hUz; have HSS : Hid _ := (hsA.set10 (.int .i64 nx) (.slice ia im ic) (.slice ta tn tc) (.int .i64 nx) (.slice na nn nc) (.slice sa sn sc) (.slice ra rn rc) (.slice la ln lc) (.slice ia im ic) (.slice ta tn tc)).cells; rw [← hUz] at HSS HP; simp only [set10] at HU; clear hsA hUz) | fail
    all_goals
      rw [← HU.out]
      clear m0 m1 m2 m3 m4 m5 m6 m7 m8 m9 hbuild z0 z1 z2 z3 z4 z5 z6
      go_wp2_with fail
      obtain ⟨s0, s1, s2, s3, s4, s5, s6, s7, s8, s9⟩ := HSS.out
      refine bodyPost_ret (v := .tuple #[.agg #[.int .i64 nx, .slice ia im ic, .slice ta tn tc, .int .i64 nx, .slice na nn nc, .slice sa sn sc, .slice ra rn rc, .slice la ln lc, .slice ia im ic, .slice ta tn tc], .bool true]) (by simp [results, Try.results14, go_sem, s0, s1, s2, s3, s4, s5, s6, s7, s8, s9]) rfl ?_
      exact ⟨by rw [hok]; rfl, HP.out⟩
end

section
open Go.RowKit

theorem inSet_no {x : WD} {wd : List Int} {z : Int} (h : worldB x = false ∨ hasB x.n z = false) : inSetB x wd z = false := by
  unfold inSetB
  rcases h with h | h <;> simp [h]

set_option maxRecDepth 100000 in
set_option maxHeartbeats 2000000 in
theorem implInSet_any {na : Option Addr} {nn nc : Nat} {sa : Option Addr} {sn sc : Nat} {ra : Option Addr} {rn rc : Nat} {la : Option Addr} {ln lc : Nat} {ia : Option Addr} {im ic : Nat} {ta : Option Addr} {tn tc : Nat} {x : WD} {wa : Option Addr} {wn wc : Nat} {wd : List Int} {w : World} {lo hi lo' hi' : Nat} {nx z : Int} (h : RdW lo hi w na nn nc sa sn sc ra rn rc la ln lc ia im ic ta tn tc x) (h' : Rd lo' hi' w wa wn wc wd) (hn : x.n = nx) (hhi : hi ≤ w.heap.size) (hhi' : hi' ≤ w.heap.size) :
    Calls Try.prog 22 #[.agg #[.int .i64 nx, .slice na nn nc, .slice sa sn sc, .slice ra rn rc, .slice la ln lc, .slice ia im ic, .slice ta tn tc], .slice wa wn wc, .int .i64 z] w fun e w' => e = .returned (.bool (inSetB x wd z)) ∧ Below w.heap.size w w' := by
  obtain ⟨W0, hW0⟩ : ∃ W0, W0 = w.alloc (.cells #[.int .i64 nx, .slice na nn nc, .slice sa sn sc, .slice ra rn rc, .slice la ln lc, .slice ia im ic, .slice ta tn tc] 27) := ⟨_, rfl⟩
  have HW0 : Hid (W0 = w.alloc (.cells #[.int .i64 nx, .slice na nn nc, .slice sa sn sc, .slice ra rn rc, .slice la ln lc, .slice ia im ic, .slice ta tn tc] 27)) := hW0
  have hb0 : Below w.heap.size w W0 := by rw [hW0]; exact (Below.refl _ _).alloc (Nat.le_refl _) _
  have HB0 : Hid (Below w.heap.size w W0) := hb0
  have hbx : BoxW 27 W0 w.heap.size nx (.slice na nn nc) (.slice sa sn sc) (.slice ra rn rc) (.slice la ln lc) (.slice ia im ic) (.slice ta tn tc) := by rw [hW0]; exact BoxW.new _ w _ _ _ _ _ _ _
  have HR : Hid (RdW lo hi W0 na nn nc sa sn sc ra rn rc la ln lc ia im ic ta tn tc x) := h.below hb0 hhi
  have HWd : Hid (Rd lo' hi' W0 wa wn wc wd) := h'.below hb0 hhi'
  have HHi : Hid (hi ≤ W0.heap.size ∧ hi' ≤ W0.heap.size) := ⟨Nat.le_trans hhi hb0.size, Nat.le_trans hhi' hb0.size⟩
  have HN : Hid (x.n = nx) := hn
  obtain ⟨z0, z1, z2, z3, z4, z5, z6⟩ := hbx.cells
  clear h h' hb0 hW0 hbx hn
  go_enter Try.func22, Try.ntmps22
  go_upto_region 1 with fail
  rw [← HW0.out]
  go_wp2_with fail
  refine (sceneOf_any HR.out HN.out HHi.out.1).mono ?_
  rintro e wA ⟨rfl, hA⟩
  have HwA : Hid (Below W0.heap.size W0 wA) := hA
  clear hA z0 z1 z2 z3 z4 z5 z6
  cases hok : worldB x
  · have HG : Hid (inSetB x wd z = false) := inSet_no (.inl hok)
    rw [show ∀ u v, whichV false u v = v from fun _ _ => rfl]
    have HB1 : Hid (Below w.heap.size w (wA.alloc (.cells #[.int .i64 0, .slice none 0 0, .slice none 0 0, .int .i64 0, .slice none 0 0, .slice none 0 0, .slice none 0 0, .slice none 0 0, .slice none 0 0, .slice none 0 0] 47))) := (HB0.out.trans (HwA.out.mono HB0.out.size)).alloc (Nat.le_trans HB0.out.size HwA.out.size) _
    clear hok
    go_wp2_with fail
    go_ret
    exact ⟨rb HG.out.symm, HB1.out⟩
  · rw [show ∀ u v, whichV true u v = u from fun _ _ => rfl]
    obtain ⟨U, hU⟩ : ∃ U, U = wA.alloc (.cells #[.int .i64 nx, .slice ia im ic, .slice ta tn tc, .int .i64 nx, .slice na nn nc, .slice sa sn sc, .slice ra rn rc, .slice la ln lc, .slice ia im ic, .slice ta tn tc] 47) := ⟨_, rfl⟩
    have HU : Hid (U = wA.alloc (.cells #[.int .i64 nx, .slice ia im ic, .slice ta tn tc, .int .i64 nx, .slice na nn nc, .slice sa sn sc, .slice ra rn rc, .slice la ln lc, .slice ia im ic, .slice ta tn tc] 47)) := hU
    have hbs : BoxS U wA.heap.size (.int .i64 nx) (.slice ia im ic) (.slice ta tn tc) (.int .i64 nx) (.slice na nn nc) (.slice sa sn sc) (.slice ra rn rc) (.slice la ln lc) (.slice ia im ic) (.slice ta tn tc) := by rw [hU]; exact BoxS.new wA _ _ _ _ _ _ _ _ _ _
    have HwU : Hid (Below W0.heap.size W0 U) := by unfold Hid; rw [hU]; exact HwA.out.alloc HwA.out.size _
    have HBU : Hid (∀ W, Below U.heap.size U W → Below w.heap.size w W) := fun W hW => (HB0.out.trans (HwU.out.mono HB0.out.size)).trans (hW.mono (Nat.le_trans HB0.out.size HwU.out.size))
    have HSc : Hid (∀ W, Below U.heap.size U W → BoxS W wA.heap.size (.int .i64 nx) (.slice ia im ic) (.slice ta tn tc) (.int .i64 nx) (.slice na nn nc) (.slice sa sn sc) (.slice ra rn rc) (.slice la ln lc) (.slice ia im ic) (.slice ta tn tc)) := fun W hW => hbs.below hW hbs.lt
    have HRU : Hid (∀ W, Below U.heap.size U W → RdW lo hi W na nn nc sa sn sc ra rn rc la ln lc ia im ic ta tn tc x ∧ Rd lo' hi' W wa wn wc wd ∧ hi ≤ W.heap.size ∧ hi' ≤ W.heap.size) := fun W hW => ⟨(HR.out.below HwU.out HHi.out.1).below hW (Nat.le_trans HHi.out.1 HwU.out.size), (HWd.out.below HwU.out HHi.out.2).below hW (Nat.le_trans HHi.out.2 HwU.out.size), Nat.le_trans (Nat.le_trans HHi.out.1 HwU.out.size) hW.size, Nat.le_trans (Nat.le_trans HHi.out.2 HwU.out.size) hW.size⟩
    have HZU : Hid (Below U.heap.size U U) := Below.refl _ _
    have HOk : Hid (worldB x = true) := hok
    obtain ⟨m0, m1, m2, m3, m4, m5, m6, m7, m8, m9⟩ := hbs.cells
    clear hU hbs
    cases hha : hasB nx z
    · have HG : Hid (inSetB x wd z = false) := inSet_no (.inr (by rw [HN.out]; exact hha))
      clear hok
      go_upto_region 2 with fail
      rw [← HU.out]
      go_wp2_with (go_at_call 23; refine (has_any _ _ U).mono ?_; rintro e wB ⟨rfl, hq⟩; rw [hha]; have HwB : Hid (Below U.heap.size U wB) := hq; clear hq m0 m1 m2 m3 m4 m5 m6 m7 m8 m9; obtain ⟨m0, m1, m2, m3, m4, m5, m6, m7, m8, m9⟩ := (HSc.out _ HwB.out).cells)
      go_ret
      exact ⟨rb HG.out.symm, HBU.out _ HwB.out⟩
    · have hz := hha
      unfold hasB at hz
      rw [decide_eq_true_eq] at hz
      obtain ⟨q, HQ⟩ : ∃ q : Nat, Hid (z = (q : Int)) := ⟨z.toNat, by unfold Hid; omega⟩
      obtain ⟨Ln, HLn⟩ : ∃ Ln : Nat, Hid (nx = (Ln : Int)) := ⟨nx.toNat, by unfold Hid; omega⟩
      have hql : q < Ln := by have h1 := HQ.out; have h2 := HLn.out; omega
      have hzq : z = (q : Int) := HQ.out
      have hnl : nx = (Ln : Int) := HLn.out
      subst hzq
      subst hnl
      have HG : Hid (inSetB x wd (q : Int) = flagO x.names x.sets wd q) := by unfold Hid inSetB; rw [hok, HN.out, hha]; simp
      have hqi : (q : Int) < (Ln : Int) := by omega
      clear hz HQ HLn hok
      go_upto_region 2 with fail
      rw [← HU.out]
      go_wp2_with (first | (go_at_call 23; refine (has_any _ _ U).mono ?_; rintro e wB ⟨rfl, hq⟩; rw [hha]; have HwB : Hid (Below U.heap.size U wB) := hq; clear hq m0 m1 m2 m3 m4 m5 m6 m7 m8 m9; obtain ⟨m0, m1, m2, m3, m4, m5, m6, m7, m8, m9⟩ := (HSc.out _ HwB.out).cells) | (go_at_call 37; refine (members_any (HRU.out _ HwB.out).1 (HRU.out _ HwB.out).2.1 HN.out (HRU.out _ HwB.out).2.2.1 (HRU.out _ HwB.out).2.2.2 HOk.out).mono ?_; rintro e wC ⟨b2, o2, c, rfl, hfc, hce, hq⟩; have HwC : Hid (Below U.heap.size U wC) := HwB.out.trans (hq.mono HwB.out.size); have hcq := hce q hql; clear hq hce))
      go_ret
      exact ⟨rb HG.out.symm, HBU.out _ HwC.out⟩
end

end Go.Proofs.Ytnmljalcndfjmaa
