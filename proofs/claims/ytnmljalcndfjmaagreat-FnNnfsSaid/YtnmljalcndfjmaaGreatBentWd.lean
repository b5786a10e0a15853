/- A drawn world that may be bent: some world, all that it holds in memory of the call's own. -/
import Derived.Test.YtnmljalcndfjmaaGreatBentWd0
import Derived.Test.YtnmljalcndfjmaaGreatNG1
namespace Go.Proofs.YtnmljalcndfjmaaGreat
open Go.RowKit

/-- What a drawn world that may be bent leaves. -/
def BwP (B : Nat) (a : Option Addr) (n cap : Nat) (zs : List Int) (hi : Nat) (w : World) (e : Ending) (w' : World) : Prop :=
  ∃ (nx : Int) (a1 : Option Addr) (n1 c1 : Nat) (a2 : Option Addr) (n2 c2 : Nat) (a3 : Option Addr) (n3 c3 : Nat) (a4 : Option Addr) (n4 c4 : Nat) (a5 : Option Addr) (n5 c5 : Nat) (a6 : Option Addr) (n6 c6 : Nat) (x : WD), e = .returned (.agg #[.int .i64 nx, .slice a1 n1 c1, .slice a2 n2 c2, .slice a3 n3 c3, .slice a4 n4 c4, .slice a5 n5 c5, .slice a6 n6 c6]) ∧ (-1 ≤ nx ∧ nx ≤ 129) ∧ x.n = nx ∧ RdW w.heap.size w'.heap.size w' a1 n1 c1 a2 n2 c2 a3 n3 c3 a4 n4 c4 a5 n5 c5 a6 n6 c6 x ∧ Cur w' B a n cap zs hi ∧ Bt B w.heap.size w w'

theorem RdW.same {lo hi : Nat} {w w' : World} {na : Option Addr} {nn nc : Nat} {sa : Option Addr} {sn sc : Nat} {ra : Option Addr} {rn rc : Nat} {la : Option Addr} {ln lc : Nat} {ia : Option Addr} {im ic : Nat} {ta : Option Addr} {tn tc : Nat} {x : WD}
    (h : RdW lo hi w na nn nc sa sn sc ra rn rc la ln lc ia im ic ta tn tc x) (hs : Same lo hi w w') : RdW lo hi w' na nn nc sa sn sc ra rn rc la ln lc ia im ic ta tn tc x :=
  ⟨h.names.same hs, h.sets.same hs, h.roles.same hs, h.rels.same hs, h.inds.same hs, h.at'.same hs⟩
theorem RdW.mono {lo hi lo' hi' : Nat} {w : World} {na : Option Addr} {nn nc : Nat} {sa : Option Addr} {sn sc : Nat} {ra : Option Addr} {rn rc : Nat} {la : Option Addr} {ln lc : Nat} {ia : Option Addr} {im ic : Nat} {ta : Option Addr} {tn tc : Nat} {x : WD}
    (h : RdW lo hi w na nn nc sa sn sc ra rn rc la ln lc ia im ic ta tn tc x) (h1 : lo' ≤ lo) (h2 : hi ≤ hi') : RdW lo' hi' w na nn nc sa sn sc ra rn rc la ln lc ia im ic ta tn tc x :=
  ⟨h.names.mono h1 h2, h.sets.mono h1 h2, h.roles.mono h1 h2, h.rels.mono h1 h2, h.inds.mono h1 h2, h.at'.mono h1 h2⟩

theorem bw_fin {B : Nat} {a : Option Addr} {n cap : Nat} {zs : List Int} {hi : Nat} {w V : World} {nx : Int} {a1 : Option Addr} {n1 c1 : Nat} {a2 : Option Addr} {n2 c2 : Nat} {a3 : Option Addr} {n3 c3 : Nat} {a4 : Option Addr} {n4 c4 : Nat} {a5 : Option Addr} {n5 c5 : Nat} {a6 : Option Addr} {n6 c6 : Nat} {x : WD} (hm : DwM B a n cap zs hi w V) (hB : B < w.heap.size) (hn : -1 ≤ nx ∧ nx ≤ 129) (hx : x.n = nx) (hr : RdW (w.heap.size + 1) V.heap.size V a1 n1 c1 a2 n2 c2 a3 n3 c3 a4 n4 c4 a5 n5 c5 a6 n6 c6 x) :
    BwP B a n cap zs hi w (.returned (.agg #[.int .i64 nx, .slice a1 n1 c1, .slice a2 n2 c2, .slice a3 n3 c3, .slice a4 n4 c4, .slice a5 n5 c5, .slice a6 n6 c6])) (put7 V w.heap.size (.int .i64 nx) (.slice a1 n1 c1) (.slice a2 n2 c2) (.slice a3 n3 c3) (.slice a4 n4 c4) (.slice a5 n5 c5) (.slice a6 n6 c6)) ∧ BoxW 27 (put7 V w.heap.size (.int .i64 nx) (.slice a1 n1 c1) (.slice a2 n2 c2) (.slice a3 n3 c3) (.slice a4 n4 c4) (.slice a5 n5 c5) (.slice a6 n6 c6)) w.heap.size nx (.slice a1 n1 c1) (.slice a2 n2 c2) (.slice a3 n3 c3) (.slice a4 n4 c4) (.slice a5 n5 c5) (.slice a6 n6 c6) := by
  obtain ⟨W', hW'⟩ : ∃ W', W' = put7 V w.heap.size (.int .i64 nx) (.slice a1 n1 c1) (.slice a2 n2 c2) (.slice a3 n3 c3) (.slice a4 n4 c4) (.slice a5 n5 c5) (.slice a6 n6 c6) := ⟨_, rfl⟩
  have hoth : ∀ k, k ≠ w.heap.size → W'.heap[k]? = V.heap[k]? := fun k hk => by rw [hW']; exact put7_other _ _ _ _ _ _ _ _ hk
  have hbox : BoxW 27 W' w.heap.size nx (.slice a1 n1 c1) (.slice a2 n2 c2) (.slice a3 n3 c3) (.slice a4 n4 c4) (.slice a5 n5 c5) (.slice a6 n6 c6) := by rw [hW']; exact put7_box hm.box _ _ _ _ _ _ _
  have hsz : W'.heap.size = V.heap.size := by rw [hW']; exact put7_size _ _ _ _ _ _ _ _ _
  have hos : W'.os = V.os ∧ W'.tape = V.tape ∧ W'.output = V.output := by rw [hW']; exact put7_keep _ _ _ _ _ _ _ _ _
  rw [← hW']
  clear hW'
  have hb := hm.bt
  have e7 : Bt B w.heap.size w W' := ⟨hos.1.trans hb.os, hos.2.1.trans hb.tape, hos.2.2.trans hb.output, by rw [hsz]; exact hb.size, fun k k1 k2 => (hoth k (by omega)).trans (hb.block k k1 k2)⟩
  have hr' : RdW w.heap.size W'.heap.size W' a1 n1 c1 a2 n2 c2 a3 n3 c3 a4 n4 c4 a5 n5 c5 a6 n6 c6 x := by rw [hsz]; exact (hr.same (fun k k1 _ => hoth k (by omega))).mono (Nat.le_succ _) (Nat.le_refl _)
  exact ⟨⟨nx, a1, n1, c1, a2, n2, c2, a3, n3, c3, a4, n4, c4, a5, n5, c5, a6, n6, c6, x, rfl, hn, hx, hr', hm.cur.keepB (fun k hk => hoth k (by omega)), e7⟩, hbox⟩

set_option maxRecDepth 100000 in
set_option maxHeartbeats 8000000 in
theorem l4bent_any {w : World} {B : Nat} {a : Option Addr} {n cap : Nat} {zs : List Int} {hi : Nat} (c : Cur w B a n cap zs hi) :
    Calls Tryz.prog 30 #[.pointer (some ⟨B, 0, none⟩)] w (BwP B a n cap zs hi w) := by
  have hB := c.lt
  obtain ⟨W0, HW0⟩ : ∃ W, Hid (W = w.alloc (.cells #[.int .i64 0, .slice none 0 0, .slice none 0 0, .slice none 0 0, .slice none 0 0, .slice none 0 0, .slice none 0 0] 27)) := ⟨_, rfl⟩
  have hs0 : W0.heap.size = w.heap.size + 1 := by rw [HW0.out]; simp
  have HM0 : Hid (DwM B a n cap zs hi w W0) := by
    have hb0 : Below w.heap.size w W0 := by rw [HW0.out]; exact (Below.refl _ _).alloc (Nat.le_refl _) _
    exact ⟨c.of (hb0.mono hB), Bt.of_below hb0, by rw [HW0.out]; exact BoxW.new _ w _ _ _ _ _ _ _⟩
  have HS0 : Hid (W0.heap.size = w.heap.size + 1) := hs0
  clear c hs0
  go_enter Tryz.func30, Tryz.ntmps30
  go_upto_region 1 with fail
  rw [← HW0.out]
  go_wp2_with fail
  refine (l4draw_any HM0.out.cur).mono ?_
  rintro e w1 hD
  obtain ⟨N, v1, v2, v3, v4, v5, v6, sets, rels, at', rfl, hN, hb1, h1, h2, h3, h4, h5, h6, hl, hc1, hbt⟩ := hD
  rw [HS0.out] at h1 h2 h3 h4 h5 h6 hbt
  obtain ⟨a1, c1, rfl, r1⟩ := h1.rss
  obtain ⟨a2, c2, rfl, r2⟩ := h2.rff
  obtain ⟨a3, c3, rfl, r3⟩ := h3.rss
  obtain ⟨a4, c4, rfl, r4⟩ := h4.rff
  obtain ⟨a5, c5, rfl, r5⟩ := h5.rss
  obtain ⟨a6, c6, rfl, r6⟩ := ownI_rd h6
  obtain ⟨m2, hm2⟩ : ∃ m, m = sets.length := ⟨_, rfl⟩
  obtain ⟨m4, hm4⟩ : ∃ m, m = rels.length := ⟨_, rfl⟩
  obtain ⟨m6, hm6⟩ : ∃ m, m = at'.length := ⟨_, rfl⟩
  have HM1 : Hid (DwM B a n cap zs hi w w1) := ⟨hc1, HM0.out.bt.trans (hbt.mono (Nat.le_succ _)), (hbt.block _ (Nat.lt_succ_self _) (by omega)).trans HM0.out.box⟩
  have HN : Hid (1 ≤ N ∧ N ≤ 3) := hN
  have HR1 : Hid (RdW (w.heap.size + 1) w1.heap.size w1 a1 3 c1 a2 m2 c2 a3 2 c3 a4 m4 c4 a5 2 c5 a6 m6 c6 ⟨(N : Int), [[65], [66], [67]], sets, [[114], [115]], rels, [[120], [121]], at'⟩) := by
    rw [hm2, hm4, hm6]; exact ⟨r1, r2, r3, r4, r5, r6⟩
  rw [show ([[65], [66], [67]] : List (List Int)).length = 3 from rfl, show ([[114], [115]] : List (List Int)).length = 2 from rfl, show ([[120], [121]] : List (List Int)).length = 2 from rfl, ← hm2, ← hm4, ← hm6]
  have HLs : Hid (m2 = 3 ∧ m4 = 2 ∧ m6 = 2 ∧ ∀ l ∈ sets, l.length = N) := by unfold Hid; rw [hm2, hm4, hm6]; exact hl
  have HO : Hid (OwnSS (w.heap.size + 1) w1 (.slice a1 3 c1) [[65], [66], [67]] ∧ OwnFF (w.heap.size + 1) w1 (.slice a2 m2 c2) sets ∧ OwnI (w.heap.size + 1) w1 (.slice a6 m6 c6) at' ∧ OwnSS (w.heap.size + 1) w1 (.slice a3 2 c3) [[114], [115]] ∧ OwnSS (w.heap.size + 1) w1 (.slice a5 2 c5) [[120], [121]]) := by rw [hm2, hm6]; exact ⟨h1, h2, h6, h3, h5⟩
  have HB1 : Hid (∃ b, Value.slice a1 3 c1 = .slice (some ⟨b, 0, none⟩) 3 3) := hb1
  clear hb1 hm2 hm4 hm6 h1 h2 h3 h4 h5 h6 r1 r2 r3 r4 r5 r6 hl hN hc1 hbt
  go_upto_region 2 with fail
  refine Code.wp_name (fun W2 hW2 => ?_)
  obtain ⟨p, hp⟩ : ∃ p, p = w1.heap.size := ⟨_, rfl⟩
  have HM2 : Hid (DwM B a n cap zs hi w W2) := by unfold Hid; rw [hW2]; exact HM1.out.grown hB (World.grownBy_alloc w1 _ none) (fun k e => by cases e)
  have HX2 : Hid (BoxW 27 W2 p (N : Int) (.slice a1 3 c1) (.slice a2 m2 c2) (.slice a3 2 c3) (.slice a4 m4 c4) (.slice a5 2 c5) (.slice a6 m6 c6)) := by unfold Hid; rw [hW2, hp]; exact BoxW.new _ w1 _ _ _ _ _ _ _
  have HK2 : Hid (Same 0 w1.heap.size w1 W2) := by unfold Hid; rw [hW2]; exact fun b _ h => allocOld h
  have HP : Hid (p = w1.heap.size) := hp
  rw [← hp]
  have hwp : w.heap.size < p := by rw [hp]; exact HM1.out.box.lt
  have hp2 : p < W2.heap.size := HX2.out.lt
  clear hp hW2
  go_wp2_with fail
  refine (l1Once_any HM2.out.cur 9 (by omega)).mono ?_
  rintro e w3 ⟨y, rfl, hc3, ho3⟩
  have HM3 : Hid (DwM B a n cap zs hi w w3) := HM2.out.only hB hc3 ho3
  have HX3 : Hid (BoxW 27 w3 p (N : Int) (.slice a1 3 c1) (.slice a2 m2 c2) (.slice a3 2 c3) (.slice a4 m4 c4) (.slice a5 2 c5) (.slice a6 m6 c6)) := (ho3.other p hp2 (by omega)).trans HX2.out
  have HK3 : Hid (Same (w.heap.size + 1) p w1 w3) := by unfold Hid; exact (HK2.out.mono (Nat.zero_le _) (Nat.le_of_eq HP.out)).trans (fun b h1 h2 => ho3.other b (by omega) (by omega))
  have HR3 : Hid (RdW (w.heap.size + 1) p w3 a1 3 c1 a2 m2 c2 a3 2 c3 a4 m4 c4 a5 2 c5 a6 m6 c6 ⟨(N : Int), [[65], [66], [67]], sets, [[114], [115]], rels, [[120], [121]], at'⟩) := by unfold Hid; have h := HR1.out; rw [← HP.out] at h; exact h.same HK3.out
  have hp3 : p < w3.heap.size := HX3.out.lt
  clear hc3 ho3
  cases y
  · obtain ⟨z0, z1, z2, z3, z4, z5, z6⟩ := HX3.out.cells
    obtain ⟨hf1, hf2⟩ := bw_fin HM3.out hB (nx := (N : Int)) (by have := HN.out; omega) rfl (HR3.out.mono (Nat.le_refl _) (Nat.le_of_lt hp3))
    have HF1 : Hid _ := hf1
    obtain ⟨x0, x1, x2, x3, x4, x5, x6⟩ := hf2.cells
    obtain ⟨u0, u1, u2, u3, u4, u5, u6⟩ := HM3.out.box.cells
    have uf0 := HM3.out.box.frz 0
    have uf1 := HM3.out.box.frz 1
    have uf2 := HM3.out.box.frz 2
    have uf3 := HM3.out.box.frz 3
    have uf4 := HM3.out.box.frz 4
    have uf5 := HM3.out.box.frz 5
    have uf6 := HM3.out.box.frz 6
    clear hf1 hf2
    simp only [put7] at x0 x1 x2 x3 x4 x5 x6
    go_wp2
    refine bodyPost_ret (v := .agg #[.int .i64 (N : Int), .slice a1 3 c1, .slice a2 m2 c2, .slice a3 2 c3, .slice a4 m4 c4, .slice a5 2 c5, .slice a6 m6 c6]) (by simp [results, Tryz.results30, go_sem, x0, x1, x2, x3, x4, x5, x6]) rfl ?_
    exact HF1.out
  · go_wp2_with fail
    refine (l1Below_any HM3.out.cur 6 (by omega)).mono ?_
    rintro e w4 ⟨m, rfl, ⟨hm0, hm1⟩, hc4, ho4⟩
    have HM4 : Hid (DwM B a n cap zs hi w w4) := HM3.out.only hB hc4 ho4
    have HX4 : Hid (BoxW 27 w4 p (N : Int) (.slice a1 3 c1) (.slice a2 m2 c2) (.slice a3 2 c3) (.slice a4 m4 c4) (.slice a5 2 c5) (.slice a6 m6 c6)) := (ho4.other p hp3 (by omega)).trans HX3.out
    have HR4 : Hid (RdW (w.heap.size + 1) p w4 a1 3 c1 a2 m2 c2 a3 2 c3 a4 m4 c4 a5 2 c5 a6 m6 c6 ⟨(N : Int), [[65], [66], [67]], sets, [[114], [115]], rels, [[120], [121]], at'⟩) := HR3.out.same (fun b h1 h2 => ho4.other b (by omega) (by omega))
    have HK4 : Hid (Same (w.heap.size + 1) p w1 w4) := HK3.out.trans (fun b h1 h2 => ho4.other b (by omega) (by omega))
    have hp4 : p < w4.heap.size := HX4.out.lt
    clear hc4 ho4
    obtain ⟨z0, z1, z2, z3, z4, z5, z6⟩ := HX4.out.cells
    by_cases e0 : m = 0
    · subst e0
      have hNw : IntKind.i64.wrap ((N : Int) + 1) = (N : Int) + 1 := wrap64_id (by have := HN.out; omega)
      have HM5 : Hid (DwM B a n cap zs hi w (w4.alloc (.cells #[.int .i64 0, .int .i64 (-1), .int .i64 129, .int .i64 ((N : Int) + 1)] 3))) := HM4.out.grown hB (World.grownBy_alloc w4 _ none) (fun k e => by cases e)
      have HX5 : Hid (BoxW 27 (w4.alloc (.cells #[.int .i64 0, .int .i64 (-1), .int .i64 129, .int .i64 ((N : Int) + 1)] 3)) p (N : Int) (.slice a1 3 c1) (.slice a2 m2 c2) (.slice a3 2 c3) (.slice a4 m4 c4) (.slice a5 2 c5) (.slice a6 m6 c6)) := (allocOld hp4).trans HX4.out
      have hpk : ∀ i, i < 4 → ∃ z, (w4.alloc (.cells #[.int .i64 0, .int .i64 (-1), .int .i64 129, .int .i64 ((N : Int) + 1)] 3)).cell? ⟨w4.heap.size, i, none⟩ = some (.int .i64 z) ∧ (-1 ≤ z ∧ z ≤ 129) := by
        have hb := allocAt (W := w4) (o := .cells #[.int .i64 0, .int .i64 (-1), .int .i64 129, .int .i64 ((N : Int) + 1)] 3) rfl
        have := HN.out
        intro i hi
        match i, hi with
        | 0, _ => exact ⟨0, by unfold World.cell?; simp only []; rw [hb]; rfl, by omega⟩
        | 1, _ => exact ⟨-1, by unfold World.cell?; simp only []; rw [hb]; rfl, by omega⟩
        | 2, _ => exact ⟨129, by unfold World.cell?; simp only []; rw [hb]; rfl, by omega⟩
        | 3, _ => exact ⟨(N : Int) + 1, by unfold World.cell?; simp only []; rw [hb]; rfl, by omega⟩
      have HPk : Hid _ := hpk
      clear hpk
      go_wp2_with fail
      refine (pickN_any HM5.out.cur (g := w4.heap.size) (m := 4) (by omega) (by omega) (fun z => -1 ≤ z ∧ z ≤ 129) HPk.out).mono ?_
      rintro e w6 ⟨nx, rfl, hnx, hc6, ho6⟩
      have HM6 : Hid (DwM B a n cap zs hi w w6) := HM5.out.only hB hc6 ho6
      have HX6 : Hid (BoxW 27 w6 p (N : Int) (.slice a1 3 c1) (.slice a2 m2 c2) (.slice a3 2 c3) (.slice a4 m4 c4) (.slice a5 2 c5) (.slice a6 m6 c6)) := (ho6.other p (by simp; omega) (by omega)).trans HX5.out
      have HR6 : Hid (RdW (w.heap.size + 1) p w6 a1 3 c1 a2 m2 c2 a3 2 c3 a4 m4 c4 a5 2 c5 a6 m6 c6 ⟨(N : Int), [[65], [66], [67]], sets, [[114], [115]], rels, [[120], [121]], at'⟩) := HR4.out.same (fun b h1 h2 => (ho6.other b (by simp; omega) (by omega)).trans (allocOld (by omega)))
      have HNx : Hid (-1 ≤ nx ∧ nx ≤ 129) := hnx
      clear hc6 ho6 hnx z0 z1 z2 z3 z4 z5 z6
      obtain ⟨z0, z1, z2, z3, z4, z5, z6⟩ := HX6.out.cells
      have zf0 := HX6.out.frz 0
      go_upto_region 15 with fail
      refine Code.wp_name (fun w7 hw7 => ?_)
      have HM7 : Hid (DwM B a n cap zs hi w w7) := by unfold Hid; rw [hw7]; exact HM6.out.grown hB (setGrown _ _ _ _) (fun k e => by simp only [Option.some.injEq] at e; omega)
      have HX7 : Hid (BoxW 27 w7 p nx (.slice a1 3 c1) (.slice a2 m2 c2) (.slice a3 2 c3) (.slice a4 m4 c4) (.slice a5 2 c5) (.slice a6 m6 c6)) := by unfold Hid; rw [hw7]; exact HX6.out.at 0 _
      have HR7 : Hid (RdW (w.heap.size + 1) p w7 a1 3 c1 a2 m2 c2 a3 2 c3 a4 m4 c4 a5 2 c5 a6 m6 c6 ⟨nx, [[65], [66], [67]], sets, [[114], [115]], rels, [[120], [121]], at'⟩) := by
        have h := HR6.out.same (w' := w7) (fun b _ h2 => by rw [hw7]; exact Below.heap_setCell _ _ _ _ (by show b ≠ p; omega))
        exact ⟨h.names, h.sets, h.roles, h.rels, h.inds, h.at'⟩
      have hp7 : p < w7.heap.size := HX7.out.lt
      clear hw7 z0 z1 z2 z3 z4 z5 z6 zf0
      obtain ⟨z0, z1, z2, z3, z4, z5, z6⟩ := HX7.out.cells
      obtain ⟨hf1, hf2⟩ := bw_fin HM7.out hB (nx := nx) (HNx.out) rfl (HR7.out.mono (Nat.le_refl _) (Nat.le_of_lt hp7))
      have HF1 : Hid _ := hf1
      obtain ⟨x0, x1, x2, x3, x4, x5, x6⟩ := hf2.cells
      obtain ⟨u0, u1, u2, u3, u4, u5, u6⟩ := HM7.out.box.cells
      have uf0 := HM7.out.box.frz 0
      have uf1 := HM7.out.box.frz 1
      have uf2 := HM7.out.box.frz 2
      have uf3 := HM7.out.box.frz 3
      have uf4 := HM7.out.box.frz 4
      have uf5 := HM7.out.box.frz 5
      have uf6 := HM7.out.box.frz 6
      clear hf1 hf2
      simp only [put7] at x0 x1 x2 x3 x4 x5 x6
      go_wp2
      refine bodyPost_ret (v := .agg #[.int .i64 nx, .slice a1 3 c1, .slice a2 m2 c2, .slice a3 2 c3, .slice a4 m4 c4, .slice a5 2 c5, .slice a6 m6 c6]) (by simp [results, Tryz.results30, go_sem, x0, x1, x2, x3, x4, x5, x6]) rfl ?_
      exact HF1.out
    · by_cases e1 : m = 1
      · subst e1
        obtain ⟨b1, hb1⟩ := HB1.out
        injection hb1 with q1 _ q2
        subst q1 q2
        have HO4 : Hid (OwnSS (w.heap.size + 1) w4 (.slice (some ⟨b1, 0, none⟩) 3 3) [[65], [66], [67]]) := HO.out.1.same (HK4.out.mono (Nat.le_refl _) (Nat.le_of_eq HP.out.symm))
        obtain ⟨vs, hrow4, hwd4⟩ := HO4.out
        have kc0 := kcAt w4 w4.heap.size 65 rfl
        obtain ⟨W5, HW5⟩ : ∃ W, Hid (W = (w4.alloc (.cells #[.int .u8 65] 5 (1, 2))).alloc (.cells #[.slice (some ⟨w4.heap.size, 0, none⟩) 1 1] 22)) := ⟨_, rfl⟩
        obtain ⟨g, hg⟩ : ∃ g, Hid (g = W5.heap.size) := ⟨_, rfl⟩
        have hs5 : W5.heap.size = w4.heap.size + 2 := by rw [HW5.out]; simp
        have hG5 : w4.grownBy W5 none := by rw [HW5.out]; exact (World.grownBy_alloc w4 _ none).trans (World.grownBy_alloc _ _ none)
        have hS5 : Same (w.heap.size + 1) w4.heap.size w4 W5 := fun b _ h2 => hG5.block b h2 (fun e => by cases e)
        have HR5 : Hid (W5.ownsRow (w.heap.size + 1) 22 1 (.slice (some ⟨b1, 0, none⟩) 3 3) 3 vs) := ownsR_same hrow4 hS5
        have HWd5 : Hid (∀ i, i < 3 → WordAt (w.heap.size + 1) W5 (vs.getD i undef) (([[65], [66], [67]] : List (List Int)).getD i [])) := fun i hi => (hwd4 i hi).same hS5
        have HN5 : Hid (WordAt (w.heap.size + 1) W5 (.slice (some ⟨w4.heap.size, 0, none⟩) 1 1) [65]) := by
          unfold Hid
          rw [HW5.out]
          exact word_lit (f := (1, 2)) ((allocOld (by simp)).trans (allocAt rfl)) (by omega) (by omega)
        have HG5 : Hid (w4.grownBy W5 none ∧ W5.heap.size = w4.heap.size + 2) := ⟨hG5, hs5⟩
        have hnews : ∀ j u, [Value.slice (some ⟨w4.heap.size, 0, none⟩) 1 1][j]? = some u → W5.cell? ((⟨w4.heap.size + 1, 0, none⟩ : Addr).add j) = some u := by
          rw [HW5.out]
          have h := newsOne (w4.alloc (.cells #[.int .u8 65] 5 (1, 2))) (Value.slice (some ⟨w4.heap.size, 0, none⟩) 1 1) 22
          simpa using h
        have HNw : Hid (∀ j u, [Value.slice (some ⟨w4.heap.size, 0, none⟩) 1 1][j]? = some u → W5.cell? ((⟨w4.heap.size + 1, 0, none⟩ : Addr).add j) = some u) := hnews
        have HX5 : Hid (BoxW 27 W5 p (N : Int) (.slice (some ⟨b1, 0, none⟩) 3 3) (.slice a2 m2 c2) (.slice a3 2 c3) (.slice a4 m4 c4) (.slice a5 2 c5) (.slice a6 m6 c6)) := (hG5.block p hp4 (fun e => by cases e)).trans HX4.out
        have hbase : w.heap.size + 1 ≤ W5.heap.size := by omega
        clear hnews hS5 hG5 hs5 hrow4 hwd4
        obtain ⟨i0, hi0, hz0, hz1, hz2⟩ := info_parts Tryz.infoDSS
        go_upto_region 15 with (at_builtin; rw [← HW5.out]; refine wpList_append_full rfl (.tmp 26) (.tmp 29) 23 rfl (w.heap.size + 1) 22 i0 (.slice none 0 0) 1 24 Tryz.underlying23 hi0 hz0 hz1 hz2 rfl (by decide) g hg.out b1 3 4 vs rfl HR5.out ⟨w4.heap.size + 1, 0, none⟩ 1 1 [Value.slice (some ⟨w4.heap.size, 0, none⟩) 1 1] rfl rfl HNw.out (by simp [Value.oneCell']) (by omega) rfl (by unfold maxLen; omega) (by omega) hbase ?_; intro cq w6 hown6 hg6; have HX6 : Hid (BoxW 27 w6 p (N : Int) (.slice (some ⟨b1, 0, none⟩) 3 3) (.slice a2 m2 c2) (.slice a3 2 c3) (.slice a4 m4 c4) (.slice a5 2 c5) (.slice a6 m6 c6)) := (hg6.block p HX5.out.lt (fun e => by cases e)).trans HX5.out; have HO6 : Hid (w6.ownsRow (w.heap.size + 1) 22 1 (.slice (some ⟨g, 0, none⟩) 4 cq) 4 (vs ++ [Value.slice (some ⟨w4.heap.size, 0, none⟩) 1 1]) ∧ W5.grownBy w6 none) := ⟨hown6, hg6⟩; clear z0 z1 z2 z3 z4 z5 z6 hown6 hg6 kc0; obtain ⟨z0, z1, z2, z3, z4, z5, z6⟩ := HX6.out.cells; have zf1 := HX6.out.frz 1)
        refine Code.wp_name (fun w7 hw7 => ?_)
        have hG6 : w4.grownBy w6 none := HG5.out.1.trans HO6.out.2
        have HM7 : Hid (DwM B a n cap zs hi w w7) := by unfold Hid; rw [hw7]; exact (HM4.out.grown hB hG6 (fun k e => by cases e)).grown hB (setGrown w6 p 1 _) (fun k e => by simp only [Option.some.injEq] at e; omega)
        have HX7 : Hid (BoxW 27 w7 p (N : Int) (.slice (some ⟨g, 0, none⟩) 4 cq) (.slice a2 m2 c2) (.slice a3 2 c3) (.slice a4 m4 c4) (.slice a5 2 c5) (.slice a6 m6 c6)) := by unfold Hid; rw [hw7]; exact HX6.out.at 1 _
        have hNm : OwnSS (w.heap.size + 1) w6 (.slice (some ⟨g, 0, none⟩) 4 cq) ([[65], [66], [67]] ++ [[65]]) := OwnSS.push (L := [[65], [66], [67]]) (v := .slice (some ⟨b1, 0, none⟩) 3 3) HR5.out HWd5.out HN5.out HO6.out.1 (grown_none HO6.out.2 _)
        have hNm7 : OwnSS (w.heap.size + 1) w7 (.slice (some ⟨g, 0, none⟩) 4 cq) ([[65], [66], [67]] ++ [[65]]) := by rw [hw7]; exact hNm.set HX6.out (by decide) (by decide) 1 _
        obtain ⟨an, cn, en, rn⟩ := hNm7.rss
        injection en with en1 _ en2
        subst en1 en2
        have hp7 : p < w7.heap.size := HX7.out.lt
        have hS7 : Same (w.heap.size + 1) p w4 w7 := fun b _ h2 => by
          rw [hw7, Below.heap_setCell _ _ _ _ (by show b ≠ p; omega)]
          exact hG6.block b (by omega) (fun e => by cases e)
        have hR7 := (HR4.out.same hS7).mono (Nat.le_refl _) (Nat.le_of_lt hp7)
        have HR7 : Hid (RdW (w.heap.size + 1) w7.heap.size w7 (some ⟨g, 0, none⟩) 4 cq a2 m2 c2 a3 2 c3 a4 m4 c4 a5 2 c5 a6 m6 c6 ⟨(N : Int), [[65], [66], [67]] ++ [[65]], sets, [[114], [115]], rels, [[120], [121]], at'⟩) := ⟨rn, hR7.sets, hR7.roles, hR7.rels, hR7.inds, hR7.at'⟩
        clear hw7 z0 z1 z2 z3 z4 z5 z6 zf1 hR7 hS7 hNm hNm7 rn hG6
        obtain ⟨z0, z1, z2, z3, z4, z5, z6⟩ := HX7.out.cells
        obtain ⟨hf1, hf2⟩ := bw_fin HM7.out hB (nx := (N : Int)) (by have := HN.out; first | exact HNx.out | omega) rfl HR7.out
        have HF1 : Hid _ := hf1
        obtain ⟨x0, x1, x2, x3, x4, x5, x6⟩ := hf2.cells
        obtain ⟨u0, u1, u2, u3, u4, u5, u6⟩ := HM7.out.box.cells
        have uf0 := HM7.out.box.frz 0
        have uf1 := HM7.out.box.frz 1
        have uf2 := HM7.out.box.frz 2
        have uf3 := HM7.out.box.frz 3
        have uf4 := HM7.out.box.frz 4
        have uf5 := HM7.out.box.frz 5
        have uf6 := HM7.out.box.frz 6
        clear hf1 hf2
        simp only [put7] at x0 x1 x2 x3 x4 x5 x6
        go_wp2
        refine bodyPost_ret (v := .agg #[.int .i64 (N : Int), .slice (some ⟨g, 0, none⟩) 4 cq, .slice a2 m2 c2, .slice a3 2 c3, .slice a4 m4 c4, .slice a5 2 c5, .slice a6 m6 c6]) (by simp [results, Tryz.results30, go_sem, x0, x1, x2, x3, x4, x5, x6]) rfl ?_
        exact HF1.out
      · obtain ⟨hm2, hm4, hm6, hl⟩ := HLs.out
        subst hm2 hm4 hm6
        have HLf : Hid (∀ l ∈ sets, l.length = N) := hl
        clear hl
        have hpw : Hid (p ≤ w1.heap.size) := Nat.le_of_eq HP.out
        have HS4 : Hid (Same (w.heap.size + 1) w1.heap.size w1 w4) := HK4.out.mono (Nat.le_refl _) (Nat.le_of_eq HP.out.symm)
        by_cases e2 : m = 2
        · subst e2
          obtain ⟨b2, o2, hq, hb2l, hb2h, hcell⟩ : ∃ b2 o2, a2 = some ⟨b2, o2, none⟩ ∧ w.heap.size + 1 ≤ b2 ∧ b2 < p ∧ ∃ v, w4.cell? ⟨b2, o2, none⟩ = some v ∧ SlF (w.heap.size + 1) p w4 v (sets.getD 0 []) := by
            rcases HR4.out.sets.cells with h | ⟨b2, o2, h, h1, h2, h3⟩
            · omega
            · exact ⟨b2, o2, h, h1, h2, h3 0 (by omega)⟩
          subst hq
          obtain ⟨v0, hv0, fa, ns, cs, rfl, hrb⟩ := hcell
          have hns : 1 ≤ ns := by
            have h1 := hrb.len
            have hlen : (sets.getD 0 []).length = N := by
              have hl' : sets.length = 3 := HR4.out.sets.len
              exact HLf.out _ (by simp only [List.getD]; rw [List.getElem?_eq_getElem (by omega)]; exact List.getElem_mem _)
            have := HN.out
            omega
          obtain ⟨bs, os, hq⟩ : ∃ bs os, fa = some ⟨bs, os, none⟩ := by
            rcases hrb.cells with h | ⟨bs, os, h, _⟩
            · omega
            · exact ⟨bs, os, h⟩
          subst hq
          have hcs := hrb.fits
          obtain ⟨os', hif, hos'⟩ : ∃ os', (if cs = 1 then some (⟨bs, os, none⟩ : Addr) else some ⟨bs, os + 1, none⟩) = some ⟨bs, os', none⟩ ∧ (1 < ns → os' = os + 1) := by
            by_cases h : cs = 1
            · exact ⟨os, if_pos h, fun h' => by omega⟩
            · exact ⟨os + 1, if_neg h, fun _ => rfl⟩
          obtain ⟨cur2, hh2⟩ : ∃ cur, w4.heap[b2]? = some (.cells cur 63 (0, 0)) := by
            have h := ownsR_same HO.out.2.1.choose_spec.1 HS4.out
            rcases h.2 with ⟨q, _⟩ | ⟨g, cc, cur, q, _, q2, _⟩
            · simp at q
            · simp only [Value.slice.injEq, Option.some.injEq, Addr.mk.injEq, and_true] at q
              obtain ⟨⟨rfl, _⟩, _⟩ := q
              exact ⟨cur, q2⟩
          have hfz : w4.frozen? ⟨b2, o2, none⟩ = false := by simp [World.frozen?, hh2]
          have HH2 : Hid (w4.heap[b2]? = some (.cells cur2 63 (0, 0))) := hh2
          have HRB : Hid (RB (w.heap.size + 1) p w4 (some ⟨bs, os, none⟩) ns cs (sets.getD 0 [])) := hrb
          have HOs : Hid (1 < ns → os' = os + 1) := hos'
          clear hh2 hrb hos'
          go_upto_region 10 with fail
          go_region
          all_goals
            go_upto_region 15 with fail
            refine Code.wp_name (fun w7 hw7 => ?_)
            have hsl : SlF (w.heap.size + 1) p (w4.setCell ⟨b2, o2, none⟩ (.slice (some ⟨bs, os', none⟩) (ns - 1) (cs - 1))) (.slice (some ⟨bs, os', none⟩) (ns - 1) (cs - 1)) ((sets.getD 0 []).drop 1) := ⟨_, _, _, rfl, RB.put (RdN.tl HRB.out hns (some ⟨bs, os', none⟩) (fun h => by rw [HOs.out h])) hv0 (fun b e => by cases e)⟩
            obtain ⟨L2, hL2⟩ := RFF.put HR4.out.sets hv0 (fun b e => by cases e) hsl
            obtain ⟨L4, hL4⟩ := RFF.put HR4.out.rels hv0 (fun b e => by cases e) hsl
            have hat7 := RI.putS (u := .slice (some ⟨bs, os', none⟩) (ns - 1) (cs - 1)) HR4.out.at' hv0
            obtain ⟨an1, cn1, en1, rn1⟩ := ((HO.out.1.same HS4.out).set HH2.out (by decide) (by decide) o2 (.slice (some ⟨bs, os', none⟩) (ns - 1) (cs - 1))).rss
            obtain ⟨an3, cn3, en3, rn3⟩ := ((HO.out.2.2.2.1.same HS4.out).set HH2.out (by decide) (by decide) o2 (.slice (some ⟨bs, os', none⟩) (ns - 1) (cs - 1))).rss
            obtain ⟨an5, cn5, en5, rn5⟩ := ((HO.out.2.2.2.2.same HS4.out).set HH2.out (by decide) (by decide) o2 (.slice (some ⟨bs, os', none⟩) (ns - 1) (cs - 1))).rss
            injection en1 with q1 _ q2
            subst q1 q2
            injection en3 with q1 _ q2
            subst q1 q2
            injection en5 with q1 _ q2
            subst q1 q2
            have hsz : (w4.setCell ⟨b2, o2, none⟩ (.slice (some ⟨bs, os', none⟩) (ns - 1) (cs - 1))).heap.size = w4.heap.size := by simp
            have hRq : RdW (w.heap.size + 1) (w4.setCell ⟨b2, o2, none⟩ (.slice (some ⟨bs, os', none⟩) (ns - 1) (cs - 1))).heap.size (w4.setCell ⟨b2, o2, none⟩ (.slice (some ⟨bs, os', none⟩) (ns - 1) (cs - 1))) a1 3 c1 (some ⟨b2, o2, none⟩) 3 c2 a3 2 c3 a4 2 c4 a5 2 c5 a6 2 c6 ⟨(N : Int), [[65], [66], [67]], L2, [[114], [115]], L4, [[120], [121]], at'⟩ :=
              ⟨rn1, hL2.mono (Nat.le_refl _) (by omega), rn3, hL4.mono (Nat.le_refl _) (by omega), rn5, hat7.mono (Nat.le_refl _) (by omega)⟩
            have HR7 : Hid (RdW (w.heap.size + 1) w7.heap.size w7 a1 3 c1 (some ⟨b2, o2, none⟩) 3 c2 a3 2 c3 a4 2 c4 a5 2 c5 a6 2 c6 ⟨(N : Int), [[65], [66], [67]], L2, [[114], [115]], L4, [[120], [121]], at'⟩) := by
              unfold Hid; rw [hw7]; exact hRq.same (fun _ _ _ => rfl)
            have HM7 : Hid (DwM B a n cap zs hi w w7) := by
              unfold Hid; rw [hw7]
              have hg := setGrown w4 b2 o2 (.slice (some ⟨bs, os', none⟩) (ns - 1) (cs - 1))
              exact HM4.out.grown (row := some b2) hB ⟨hg.os, hg.tape, hg.output, hg.size, hg.block⟩ (fun k e => by simp only [Option.some.injEq] at e; omega)
            have HX7 : Hid (BoxW 27 w7 p (N : Int) (.slice a1 3 c1) (.slice (some ⟨b2, o2, none⟩) 3 c2) (.slice a3 2 c3) (.slice a4 2 c4) (.slice a5 2 c5) (.slice a6 2 c6)) := by
              unfold Hid; rw [hw7]
              exact (heap_setCell_other w4 ⟨b2, o2, none⟩ p _ (by show p ≠ b2; omega)).trans HX4.out
            clear hw7 z0 z1 z2 z3 z4 z5 z6 hRq hsz hsl hL2 hL4 hat7 rn1 rn3 rn5 hv0 hfz hif
            obtain ⟨z0, z1, z2, z3, z4, z5, z6⟩ := HX7.out.cells
            obtain ⟨hf1, hf2⟩ := bw_fin HM7.out hB (nx := (N : Int)) (by have := HN.out; first | exact HNx.out | omega) rfl HR7.out
            have HF1 : Hid _ := hf1
            obtain ⟨x0, x1, x2, x3, x4, x5, x6⟩ := hf2.cells
            obtain ⟨u0, u1, u2, u3, u4, u5, u6⟩ := HM7.out.box.cells
            have uf0 := HM7.out.box.frz 0
            have uf1 := HM7.out.box.frz 1
            have uf2 := HM7.out.box.frz 2
            have uf3 := HM7.out.box.frz 3
            have uf4 := HM7.out.box.frz 4
            have uf5 := HM7.out.box.frz 5
            have uf6 := HM7.out.box.frz 6
            clear hf1 hf2
            simp only [put7] at x0 x1 x2 x3 x4 x5 x6
            go_wp2
            refine bodyPost_ret (v := .agg #[.int .i64 (N : Int), .slice a1 3 c1, .slice (some ⟨b2, o2, none⟩) 3 c2, .slice a3 2 c3, .slice a4 2 c4, .slice a5 2 c5, .slice a6 2 c6]) (by simp [results, Tryz.results30, go_sem, x0, x1, x2, x3, x4, x5, x6]) rfl ?_
            exact HF1.out
        · by_cases e3 : m = 3
          · subst e3
            obtain ⟨b6, o6, hq, hb6l, hb6h, k0, hk0⟩ : ∃ b6 o6, a6 = some ⟨b6, o6, none⟩ ∧ w.heap.size + 1 ≤ b6 ∧ b6 < p ∧ ∃ k0, w4.cell? ⟨b6, o6, none⟩ = some (.int .i64 k0) := by
              rcases HR4.out.at'.cells with h | ⟨b6, o6, h, h1, h2, h3⟩
              · omega
              · obtain ⟨v, hv, hr⟩ := h3 0 (by omega)
                exact ⟨b6, o6, h, h1, h2, _, by rw [← hr]; exact hv⟩
            subst hq
            obtain ⟨cur6, hh6⟩ : ∃ cur, w4.heap[b6]? = some (.cells cur 3 (0, 0)) := by
              have h := ownI_same HO.out.2.2.1 HS4.out
              rcases h.2 with ⟨q, _⟩ | ⟨g, cc, cur, q, _, q2, _⟩
              · simp at q
              · simp only [Value.slice.injEq, Option.some.injEq, Addr.mk.injEq, and_true] at q
                obtain ⟨⟨rfl, _⟩, _⟩ := q
                exact ⟨cur, q2⟩
            have HH6 : Hid (w4.heap[b6]? = some (.cells cur6 3 (0, 0))) := hh6
            have HK0 : Hid (w4.cell? ⟨b6, o6, none⟩ = some (.int .i64 k0)) := hk0
            clear hh6
            obtain ⟨W5, HW5⟩ : ∃ W, Hid (W = (w4.alloc (.cells #[.int .i64 (-1), .int .i64 (N : Int)] 3)).drew) := ⟨_, rfl⟩
            have hg5 : w4.grownBy W5 none := by
              rw [HW5.out]
              have h := World.grownBy_alloc w4 (.cells #[.int .i64 (-1), .int .i64 (N : Int)] 3) none
              exact ⟨h.os, h.tape, h.output, h.size, h.block⟩
            have HG5 : Hid (w4.grownBy W5 none) := hg5
            have HM5 : Hid (DwM B a n cap zs hi w W5) := HM4.out.grown hB hg5 (fun k e => by cases e)
            have hpk : ∀ i, i < 2 → ∃ z, W5.cell? ⟨w4.heap.size, i, none⟩ = some (.int .i64 z) ∧ (-1 ≤ z ∧ z ≤ 129) := by
              have hb : W5.heap[w4.heap.size]? = some (.cells #[.int .i64 (-1), .int .i64 (N : Int)] 3) := by rw [HW5.out]; exact allocAt (W := w4) rfl
              have := HN.out
              intro i hi
              match i, hi with
              | 0, _ => exact ⟨-1, by unfold World.cell?; simp only []; rw [hb]; rfl, by omega⟩
              | 1, _ => exact ⟨(N : Int), by unfold World.cell?; simp only []; rw [hb]; rfl, by omega⟩
            have HPk : Hid _ := hpk
            have hs5 : w4.heap.size < W5.heap.size := by rw [HW5.out]; show w4.heap.size < (w4.alloc _).heap.size; simp
            clear hpk hg5
            have HArm : Hid (∀ w6 : World, Only B W5 w6 → BoxW 27 w6 p (N : Int) (.slice a1 3 c1) (.slice a2 3 c2) (.slice a3 2 c3) (.slice a4 2 c4) (.slice a5 2 c5) (.slice (some ⟨b6, o6, none⟩) 2 c6) ∧ w6.cell? ⟨b6, o6, none⟩ = some (.int .i64 k0) ∧ w6.frozen? ⟨b6, o6, none⟩ = false) := by
              intro w6 ho6
              have hb66 : w6.heap[b6]? = w4.heap[b6]? := (ho6.other b6 (by omega) (by omega)).trans (HG5.out.block b6 (by omega) (fun e => by cases e))
              refine ⟨(ho6.other p (by omega) (by omega)).trans ((HG5.out.block p hp4 (fun e => by cases e)).trans HX4.out), ?_, ?_⟩
              · exact (World.cell?_of_block (w := w4) hb66).trans HK0.out
              · have h6 := HH6.out
                rw [← hb66] at h6
                simp [World.frozen?, h6]
            go_upto_region 12 with fail
            go_region_with (go_at_call 75; (rw [← HW5.out]; refine (pickN_any (w := W5) HM5.out.cur (g := w4.heap.size) (m := 2) (by omega) (by omega) (fun z => -1 ≤ z ∧ z ≤ 129) HPk.out).mono ?_; rintro e w6 ⟨nx, rfl, hnx, hc6, ho6⟩; have HC6 : Hid (Cur w6 B a n cap zs hi ∧ Only B W5 w6) := ⟨hc6, ho6⟩; obtain ⟨hx6, k6, f6⟩ := HArm.out w6 ho6; have HX6 : Hid (BoxW 27 w6 p (N : Int) (.slice a1 3 c1) (.slice a2 3 c2) (.slice a3 2 c3) (.slice a4 2 c4) (.slice a5 2 c5) (.slice (some ⟨b6, o6, none⟩) 2 c6)) := hx6; obtain ⟨t0, t1, t2, t3, t4, t5, t6⟩ := hx6.cells; have HNx : Hid (-1 ≤ nx ∧ nx ≤ 129) := hnx; clear hnx hc6 ho6 hx6))
            all_goals
              go_upto_region 15 with fail
              refine Code.wp_name (fun w7 hw7 => ?_)
              have HX7 : Hid (BoxW 27 w7 p (N : Int) (.slice a1 3 c1) (.slice a2 3 c2) (.slice a3 2 c3) (.slice a4 2 c4) (.slice a5 2 c5) (.slice (some ⟨b6, o6, none⟩) 2 c6)) := by
                unfold Hid; rw [hw7]
                exact (heap_setCell_other w6 ⟨b6, o6, none⟩ p _ (by show p ≠ b6; omega)).trans HX6.out
              have HM7 : Hid (DwM B a n cap zs hi w w7) := by unfold Hid; rw [hw7]; exact (HM5.out.only hB HC6.out.1 HC6.out.2).grown hB (setGrown w6 b6 o6 (.int .i64 nx)) (fun k e => by simp only [Option.some.injEq] at e; omega)
              have hp7 : p < w7.heap.size := HX7.out.lt
              have hR6 : RdW (w.heap.size + 1) p w6 a1 3 c1 a2 3 c2 a3 2 c3 a4 2 c4 a5 2 c5 (some ⟨b6, o6, none⟩) 2 c6 ⟨(N : Int), [[65], [66], [67]], sets, [[114], [115]], rels, [[120], [121]], at'⟩ := HR4.out.same (fun b h1 h2 => (HC6.out.2.other b (by omega) (by omega)).trans (HG5.out.block b (by omega) (fun e => by cases e)))
              have hR7 : RdW (w.heap.size + 1) p w7 a1 3 c1 a2 3 c2 a3 2 c3 a4 2 c4 a5 2 c5 (some ⟨b6, o6, none⟩) 2 c6 ⟨(N : Int), [[65], [66], [67]], sets, [[114], [115]], rels, [[120], [121]], at'.set 0 nx⟩ := by
                rw [hw7]
                exact ⟨hR6.names.putI k6, hR6.sets.putI k6, hR6.roles.putI k6, hR6.rels.putI k6, hR6.inds.putI k6, RI.putI hR6.at' k6 nx (by omega)⟩
              have HR7 : Hid (RdW (w.heap.size + 1) w7.heap.size w7 a1 3 c1 a2 3 c2 a3 2 c3 a4 2 c4 a5 2 c5 (some ⟨b6, o6, none⟩) 2 c6 ⟨(N : Int), [[65], [66], [67]], sets, [[114], [115]], rels, [[120], [121]], at'.set 0 nx⟩) := hR7.mono (Nat.le_refl _) (Nat.le_of_lt hp7)
              clear hw7 z0 z1 z2 z3 z4 z5 z6 t0 t1 t2 t3 t4 t5 t6 k6 f6 hR6 hR7 hk0
              obtain ⟨z0, z1, z2, z3, z4, z5, z6⟩ := HX7.out.cells
              obtain ⟨hf1, hf2⟩ := bw_fin HM7.out hB (nx := (N : Int)) (by have := HN.out; first | exact HNx.out | omega) rfl HR7.out
              have HF1 : Hid _ := hf1
              obtain ⟨x0, x1, x2, x3, x4, x5, x6⟩ := hf2.cells
              obtain ⟨u0, u1, u2, u3, u4, u5, u6⟩ := HM7.out.box.cells
              have uf0 := HM7.out.box.frz 0
              have uf1 := HM7.out.box.frz 1
              have uf2 := HM7.out.box.frz 2
              have uf3 := HM7.out.box.frz 3
              have uf4 := HM7.out.box.frz 4
              have uf5 := HM7.out.box.frz 5
              have uf6 := HM7.out.box.frz 6
              clear hf1 hf2
              simp only [put7] at x0 x1 x2 x3 x4 x5 x6
              go_wp2
              refine bodyPost_ret (v := .agg #[.int .i64 (N : Int), .slice a1 3 c1, .slice a2 3 c2, .slice a3 2 c3, .slice a4 2 c4, .slice a5 2 c5, .slice (some ⟨b6, o6, none⟩) 2 c6]) (by simp [results, Tryz.results30, go_sem, x0, x1, x2, x3, x4, x5, x6]) rfl ?_
              exact HF1.out
          · by_cases e4 : m = 4
            · subst e4
              obtain ⟨b5, o5, hq⟩ : ∃ b5 o5, a5 = some ⟨b5, o5, none⟩ := by
                rcases HR4.out.inds.cells with h | ⟨b5, o5, h, _⟩
                · omega
                · exact ⟨b5, o5, h⟩
              subst hq
              have hc5 : 2 ≤ c5 := HR4.out.inds.fits.1
              have hif : (if c5 = 1 then some (⟨b5, o5, none⟩ : Addr) else some ⟨b5, o5 + 1, none⟩) = some ⟨b5, o5 + 1, none⟩ := if_neg (by omega)
              have zf5 := HX4.out.frz 5
              go_upto_region 15 with fail
              refine Code.wp_name (fun w7 hw7 => ?_)
              have HM7 : Hid (DwM B a n cap zs hi w w7) := by unfold Hid; rw [hw7]; exact HM4.out.grown hB (setGrown w4 p 5 (.slice (some ⟨b5, o5 + 1, none⟩) 1 (c5 - 1))) (fun k e => by simp only [Option.some.injEq] at e; omega)
              have HX7 : Hid (BoxW 27 w7 p (N : Int) (.slice a1 3 c1) (.slice a2 3 c2) (.slice a3 2 c3) (.slice a4 2 c4) (.slice (some ⟨b5, o5 + 1, none⟩) 1 (c5 - 1)) (.slice a6 2 c6)) := by unfold Hid; rw [hw7]; exact HX4.out.at 5 _
              have hp7 : p < w7.heap.size := HX7.out.lt
              have hR7 := (HR4.out.same (w' := w7) (fun b _ h2 => by rw [hw7]; exact Below.heap_setCell _ _ _ _ (by show b ≠ p; omega))).mono (Nat.le_refl _) (Nat.le_of_lt hp7)
              have HR7 : Hid (RdW (w.heap.size + 1) w7.heap.size w7 a1 3 c1 a2 3 c2 a3 2 c3 a4 2 c4 (some ⟨b5, o5 + 1, none⟩) 1 (c5 - 1) a6 2 c6 ⟨(N : Int), [[65], [66], [67]], sets, [[114], [115]], rels, [[121]], at'⟩) :=
                ⟨hR7.names, hR7.sets, hR7.roles, hR7.rels, RdN.tl hR7.inds (by omega) (some ⟨b5, o5 + 1, none⟩) (fun _ => rfl), hR7.at'⟩
              clear hw7 z0 z1 z2 z3 z4 z5 z6 zf5 hR7 hif
              obtain ⟨z0, z1, z2, z3, z4, z5, z6⟩ := HX7.out.cells
              obtain ⟨hf1, hf2⟩ := bw_fin HM7.out hB (nx := (N : Int)) (by have := HN.out; first | exact HNx.out | omega) rfl HR7.out
              have HF1 : Hid _ := hf1
              obtain ⟨x0, x1, x2, x3, x4, x5, x6⟩ := hf2.cells
              obtain ⟨u0, u1, u2, u3, u4, u5, u6⟩ := HM7.out.box.cells
              have uf0 := HM7.out.box.frz 0
              have uf1 := HM7.out.box.frz 1
              have uf2 := HM7.out.box.frz 2
              have uf3 := HM7.out.box.frz 3
              have uf4 := HM7.out.box.frz 4
              have uf5 := HM7.out.box.frz 5
              have uf6 := HM7.out.box.frz 6
              clear hf1 hf2
              simp only [put7] at x0 x1 x2 x3 x4 x5 x6
              go_wp2
              refine bodyPost_ret (v := .agg #[.int .i64 (N : Int), .slice a1 3 c1, .slice a2 3 c2, .slice a3 2 c3, .slice a4 2 c4, .slice (some ⟨b5, o5 + 1, none⟩) 1 (c5 - 1), .slice a6 2 c6]) (by simp [results, Tryz.results30, go_sem, x0, x1, x2, x3, x4, x5, x6]) rfl ?_
              exact HF1.out
            · obtain rfl : m = 5 := by omega
              obtain ⟨b5, o5, hq⟩ : ∃ b5 o5, a4 = some ⟨b5, o5, none⟩ := by
                rcases HR4.out.rels.cells with h | ⟨b5, o5, h, _⟩
                · omega
                · exact ⟨b5, o5, h⟩
              subst hq
              have hc5 : 2 ≤ c4 := HR4.out.rels.fits.1
              have hif : (if c4 = 1 then some (⟨b5, o5, none⟩ : Addr) else some ⟨b5, o5 + 1, none⟩) = some ⟨b5, o5 + 1, none⟩ := if_neg (by omega)
              have zf4 := HX4.out.frz 4
              go_upto_region 15 with fail
              refine Code.wp_name (fun w7 hw7 => ?_)
              have HM7 : Hid (DwM B a n cap zs hi w w7) := by unfold Hid; rw [hw7]; exact HM4.out.grown hB (setGrown w4 p 4 (.slice (some ⟨b5, o5 + 1, none⟩) 1 (c4 - 1))) (fun k e => by simp only [Option.some.injEq] at e; omega)
              have HX7 : Hid (BoxW 27 w7 p (N : Int) (.slice a1 3 c1) (.slice a2 3 c2) (.slice a3 2 c3) (.slice (some ⟨b5, o5 + 1, none⟩) 1 (c4 - 1)) (.slice a5 2 c5) (.slice a6 2 c6)) := by unfold Hid; rw [hw7]; exact HX4.out.at 4 _
              have hp7 : p < w7.heap.size := HX7.out.lt
              have hR7 := (HR4.out.same (w' := w7) (fun b _ h2 => by rw [hw7]; exact Below.heap_setCell _ _ _ _ (by show b ≠ p; omega))).mono (Nat.le_refl _) (Nat.le_of_lt hp7)
              have HR7 : Hid (RdW (w.heap.size + 1) w7.heap.size w7 a1 3 c1 a2 3 c2 a3 2 c3 (some ⟨b5, o5 + 1, none⟩) 1 (c4 - 1) a5 2 c5 a6 2 c6 ⟨(N : Int), [[65], [66], [67]], sets, [[114], [115]], rels.drop 1, [[120], [121]], at'⟩) :=
                ⟨hR7.names, hR7.sets, hR7.roles, RdN.tl hR7.rels (by omega) (some ⟨b5, o5 + 1, none⟩) (fun _ => rfl), hR7.inds, hR7.at'⟩
              clear hw7 z0 z1 z2 z3 z4 z5 z6 zf4 hR7 hif
              obtain ⟨z0, z1, z2, z3, z4, z5, z6⟩ := HX7.out.cells
              obtain ⟨hf1, hf2⟩ := bw_fin HM7.out hB (nx := (N : Int)) (by have := HN.out; first | exact HNx.out | omega) rfl HR7.out
              have HF1 : Hid _ := hf1
              obtain ⟨x0, x1, x2, x3, x4, x5, x6⟩ := hf2.cells
              obtain ⟨u0, u1, u2, u3, u4, u5, u6⟩ := HM7.out.box.cells
              have uf0 := HM7.out.box.frz 0
              have uf1 := HM7.out.box.frz 1
              have uf2 := HM7.out.box.frz 2
              have uf3 := HM7.out.box.frz 3
              have uf4 := HM7.out.box.frz 4
              have uf5 := HM7.out.box.frz 5
              have uf6 := HM7.out.box.frz 6
              clear hf1 hf2
              simp only [put7] at x0 x1 x2 x3 x4 x5 x6
              go_wp2
              refine bodyPost_ret (v := .agg #[.int .i64 (N : Int), .slice a1 3 c1, .slice a2 3 c2, .slice a3 2 c3, .slice (some ⟨b5, o5 + 1, none⟩) 1 (c4 - 1), .slice a5 2 c5, .slice a6 2 c6]) (by simp [results, Tryz.results30, go_sem, x0, x1, x2, x3, x4, x5, x6]) rfl ?_
              exact HF1.out

end Go.Proofs.YtnmljalcndfjmaaGreat
