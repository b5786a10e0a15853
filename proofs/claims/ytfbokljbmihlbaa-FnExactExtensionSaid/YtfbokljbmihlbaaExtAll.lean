/- Several texts in one: WdMark2, WdFree, HoldN, ExtS, ExtI, ExtM, ConMarkW. -/
import Derived.Test.YtfbokljbmihlbaaWdMark
import Derived.Test.YtfbokljbmihlbaaWdLaw3
import Derived.Test.YtfbokljbmihlbaaConTo
import Derived.Test.YtfbokljbmihlbaaHoldS
import Derived.Test.YtfbokljbmihlbaaHoldH
import Derived.Test.YtfbokljbmihlbaaConOkImpl
import Derived.Test.YtfbokljbmihlbaaConSpec2
import Derived.Test.YtfbokljbmihlbaaOwnI
namespace Go.Proofs.Ytfbokljbmihlbaa

section
open Go.RowKit
set_option linter.unusedVariables false

set_option maxRecDepth 100000 in
set_option maxHeartbeats 4000000 in
theorem markWorld_any {na : Option Addr} {nn nc : Nat} {sa : Option Addr} {sn sc : Nat} {ra : Option Addr} {rn rc : Nat} {la : Option Addr} {ln lc : Nat} {ia : Option Addr} {im ic : Nat} {ta : Option Addr} {tn tc : Nat} {x : WD} {w : World} {lo hi : Nat} {nx k : Int} (h : RdW lo hi w na nn nc sa sn sc ra rn rc la ln lc ia im ic ta tn tc x) (hF : Free lo hi w) (hhi : hi ≤ w.heap.size) (hbd : BdW x nn sn rn ln im tn) (hk : 0 ≤ k ∧ k ≤ 1073741824) :
    Calls Try.prog 14 #[.agg #[.int .i64 nx, .slice na nn nc, .slice sa sn sc, .slice ra rn rc, .slice la ln lc, .slice ia im ic, .slice ta tn tc], .int .i64 k] w fun e w' => ∃ t : Nat, e = .returned (.int .i64 (k + t)) ∧ t ≤ 8796093022208 ∧ MarkW lo hi w w' := by
  obtain ⟨hk0, hk1⟩ := hk
  obtain ⟨W0, hW0⟩ : ∃ W0, W0 = w.alloc (.cells #[.int .i64 nx, .slice na nn nc, .slice sa sn sc, .slice ra rn rc, .slice la ln lc, .slice ia im ic, .slice ta tn tc] 34) := ⟨_, rfl⟩
  have HW0 : Hid (W0 = w.alloc (.cells #[.int .i64 nx, .slice na nn nc, .slice sa sn sc, .slice ra rn rc, .slice la ln lc, .slice ia im ic, .slice ta tn tc] 34)) := hW0
  have hb0 : Below w.heap.size w W0 := by rw [hW0]; exact (Below.refl _ _).alloc (Nat.le_refl _) _
  have hs0 : W0.heap.size = w.heap.size + 1 := by rw [hW0]; simp
  have hbx : BoxW 34 W0 w.heap.size nx (.slice na nn nc) (.slice sa sn sc) (.slice ra rn rc) (.slice la ln lc) (.slice ia im ic) (.slice ta tn tc) := by rw [hW0]; exact BoxW.new _ w _ _ _ _ _ _ _
  have HM0 : Hid (MarkW lo hi w W0) := (MarkRel.of_below hb0).toW
  have HX : Hid (∀ V, MarkW lo hi W0 V → BoxW 34 V w.heap.size nx (.slice na nn nc) (.slice sa sn sc) (.slice ra rn rc) (.slice la ln lc) (.slice ia im ic) (.slice ta tn tc)) := fun V hV => (hV.out _ (by omega) (.inr hhi)).trans hbx
  have HBd : Hid (BdW x nn sn rn ln im tn) := hbd
  have HS : Hid (∀ V, MarkW lo hi W0 V → markBBSh lo hi V na nn nc ∧ markFFSh lo hi V sa sn sc ∧ markBBSh lo hi V ra rn rc ∧ markFFSh lo hi V la ln lc ∧ markBBSh lo hi V ia im ic ∧ ShI lo hi V ta tn tc ∧ Free lo hi V ∧ hi ≤ V.heap.size) := fun V hV => by
    have h0 := h.below hb0 hhi
    exact ⟨(h0.names.sh hbd.n.2).mark hV, (h0.sets.sh hbd.s.2).mark hV, (h0.roles.sh hbd.r.2).mark hV, (h0.rels.sh hbd.l.2).mark hV, (h0.inds.sh hbd.i.2).mark hV, ShI.mark hV (RI.sh h0.at'), (hF.markW HM0.out hhi).markW hV (by omega), by have := hV.size; omega⟩
  have htn : tn ≤ 1048576 := hbd.t
  obtain ⟨z0, z1, z2, z3, z4, z5, z6⟩ := hbx.cells
  clear h hF hb0 hbx hW0 hbd hs0
  go_enter Try.func14, Try.ntmps14
  go_upto_region 1 with fail
  rw [← HW0.out]
  go_wp2_with fail
  refine (markBB_any na nn nc (k) W0 (HS.out W0 (MarkW.refl lo hi W0)).1 (HS.out W0 (MarkW.refl lo hi W0)).2.2.2.2.2.2.1 (HS.out W0 (MarkW.refl lo hi W0)).2.2.2.2.2.2.2 HBd.out.n.1 (by omega)).mono ?_
  rintro e w1 ⟨t1, rfl, ht1, hm1⟩
  have HM1 : Hid (MarkW lo hi W0 w1) := hm1
  clear hm1 z0 z1 z2 z3 z4 z5 z6
  obtain ⟨z0, z1, z2, z3, z4, z5, z6⟩ := (HX.out w1 HM1.out).cells
  go_wp2_with fail
  refine (markFF_any sa sn sc (k + (t1 : Int)) w1 (HS.out w1 (HM1.out)).2.1 (HS.out w1 (HM1.out)).2.2.2.2.2.2.1 (HS.out w1 (HM1.out)).2.2.2.2.2.2.2 HBd.out.s.1 (by omega)).mono ?_
  rintro e w2 ⟨t2, rfl, ht2, hm2⟩
  have HM2 : Hid (MarkW lo hi W0 w2) := HM1.out.trans hm2
  clear hm2 z0 z1 z2 z3 z4 z5 z6
  obtain ⟨z0, z1, z2, z3, z4, z5, z6⟩ := (HX.out w2 HM2.out).cells
  go_wp2_with fail
  refine (markBB_any ra rn rc (k + (t1 : Int) + (t2 : Int)) w2 (HS.out w2 (HM2.out)).2.2.1 (HS.out w2 (HM2.out)).2.2.2.2.2.2.1 (HS.out w2 (HM2.out)).2.2.2.2.2.2.2 HBd.out.r.1 (by omega)).mono ?_
  rintro e w3 ⟨t3, rfl, ht3, hm3⟩
  have HM3 : Hid (MarkW lo hi W0 w3) := HM2.out.trans hm3
  clear hm3 z0 z1 z2 z3 z4 z5 z6
  obtain ⟨z0, z1, z2, z3, z4, z5, z6⟩ := (HX.out w3 HM3.out).cells
  go_wp2_with fail
  refine (markFF_any la ln lc (k + (t1 : Int) + (t2 : Int) + (t3 : Int)) w3 (HS.out w3 (HM3.out)).2.2.2.1 (HS.out w3 (HM3.out)).2.2.2.2.2.2.1 (HS.out w3 (HM3.out)).2.2.2.2.2.2.2 HBd.out.l.1 (by omega)).mono ?_
  rintro e w4 ⟨t4, rfl, ht4, hm4⟩
  have HM4 : Hid (MarkW lo hi W0 w4) := HM3.out.trans hm4
  clear hm4 z0 z1 z2 z3 z4 z5 z6
  obtain ⟨z0, z1, z2, z3, z4, z5, z6⟩ := (HX.out w4 HM4.out).cells
  go_wp2_with fail
  refine (markBB_any ia im ic (k + (t1 : Int) + (t2 : Int) + (t3 : Int) + (t4 : Int)) w4 (HS.out w4 (HM4.out)).2.2.2.2.1 (HS.out w4 (HM4.out)).2.2.2.2.2.2.1 (HS.out w4 (HM4.out)).2.2.2.2.2.2.2 HBd.out.i.1 (by omega)).mono ?_
  rintro e w5 ⟨t5, rfl, ht5, hm5⟩
  have HM5 : Hid (MarkW lo hi W0 w5) := HM4.out.trans hm5
  clear hm5 z0 z1 z2 z3 z4 z5 z6
  obtain ⟨z0, z1, z2, z3, z4, z5, z6⟩ := (HX.out w5 HM5.out).cells
  go_wp2_with fail
  refine (markIW_any ta tn tc (k + (t1 : Int) + (t2 : Int) + (t3 : Int) + (t4 : Int) + (t5 : Int)) w5 (HS.out w5 (HM5.out)).2.2.2.2.2.1 (HS.out w5 (HM5.out)).2.2.2.2.2.2.1 (HS.out w5 (HM5.out)).2.2.2.2.2.2.2 HBd.out.t (by omega)).mono ?_
  rintro e w6 ⟨rfl, hm6⟩
  have HM6 : Hid (MarkW lo hi W0 w6) := HM5.out.trans hm6
  clear hm6 z0 z1 z2 z3 z4 z5 z6
  obtain ⟨z0, z1, z2, z3, z4, z5, z6⟩ := (HX.out w6 HM6.out).cells
  go_wp2_with fail
  go_ret
  exact ⟨t1 + t2 + t3 + t4 + t5 + tn, ri (by omega), by omega, HM0.out.trans HM6.out⟩
end

section
open Go.RowKit

set_option maxHeartbeats 800000 in
theorem toBoolS_fr (a : Option Addr) (n cap : Nat) (xs : List Bool) (w : World) {lo hi : Nat} (h : RB lo hi w a n cap xs) (hhi : hi ≤ w.heap.size) (hn : n ≤ 1048576) :
    Calls Try.prog 58 #[.slice a n cap] w fun e w' => e = .returned (.slice (some ⟨w.heap.size, 0, none⟩) n n) ∧ RB w.heap.size (w.heap.size + 1) w' (some ⟨w.heap.size, 0, none⟩) n n xs ∧ Below w.heap.size w w' ∧ w'.heap.size = w.heap.size + 1 ∧ Free w.heap.size w'.heap.size w' := by
  obtain ⟨hl, ⟨hm, _⟩, hc⟩ := h
  have hmk := fun w : World => run_make_row' (P := Try.prog) 69 4 (.bool false) 1 Try.underlying69 Try.info4w rfl .i64 .i64 n (by omega) (by omega) w
  have HL : Hid (xs.length = n) := hl
  have HCell : Hid (∀ k, k < n → ∃ b off, a = some ⟨b, off, none⟩ ∧ b < w.heap.size ∧ w.cell? ⟨b, off + k, none⟩ = some (.bool (xs.getD k false))) := by
    intro k hk
    rcases hc with h0 | ⟨b, off, e, _, hb, hcs⟩
    · omega
    · obtain ⟨v, hv, rfl⟩ := hcs k hk
      exact ⟨b, off, e, by omega, hv⟩
  have h0 : Hid ((w.alloc (.cells (madeCells #[(.bool false)] n) 4)).rowIs w.heap.size 4 n (partV (.bool false) (fun i => (.bool (xs.getD i false))) 0)) := (World.rowIs_made w (.bool false) n 4).congr (fun i _ => by simp [partV])
  clear hc hl
  go_enter Try.func58, Try.ntmps58
  go_wp2
  go_loopw [4] (fun i wr => ∃ k : Nat, k ≤ n ∧ i = .int .i64 k ∧ wr.rowIs w.heap.size 4 n (partV (.bool false) (fun i => (.bool (xs.getD i false))) k) ∧ Below w.heap.size w wr ∧ wr.heap.size = w.heap.size + 1) (fun i _ => n - (intOf i).toNat)
  case atStart => exact ⟨0, Nat.zero_le _, rfl, h0.out, (Below.refl _ _).alloc (Nat.le_refl _) _, by simp⟩
  case round =>
    obtain ⟨k, hk, rfl, hrow, hbel, hsz⟩ := hrel
    by_cases hlt : k < n
    · obtain ⟨b, off, ha, hb, hcell⟩ := HCell.out k hlt
      subst ha
      obtain ⟨c, hcc⟩ : ∃ c, c = xs.getD k false := ⟨_, rfl⟩
      have HC : Hid (c = xs.getD k false) := hcc
      rw [← hcc] at hcell
      have hck : wr.cell? ⟨b, off + k, none⟩ = some (.bool (c)) := by rw [hbel.cell (p := ⟨b, off + k, none⟩) hb]; exact hcell
      have hfz := hrow.frozen k
      have hold : wr.cell? ⟨w.heap.size, k, none⟩ = some (.bool false) := by have := hrow.cell hlt; simpa [partV] using this
      have HR : Hid ((wr.setCell ⟨w.heap.size, k, none⟩ (.bool (c))).rowIs w.heap.size 4 n (partV (.bool false) (fun i => (.bool (xs.getD i false))) (k + 1))) := by
        refine (partV_step _ hrow).congr fun i _ => ?_
        unfold partV
        by_cases e : i = k
        · subst e; rw [HC.out]; simp
        · simp [e]
      have HB : Hid (Below w.heap.size w (wr.setCell ⟨w.heap.size, k, none⟩ (.bool (c)))) := hbel.setCell (Nat.le_refl _) _
      have hki : (k : Int) < (n : Int) := by omega
      clear hrow hbel hcc hcell
      go_wp2
      go_roundw
      case rel => exact ⟨k + 1, by omega, by go_num, HR.out, HB.out, by simpa using hsz⟩
      case measure => simp [intOf]; omega
    · have hkn : k = n := by omega
      have HRd : Hid (RB w.heap.size (w.heap.size + 1) wr (some ⟨w.heap.size, 0, none⟩) n n xs) := by
        refine ⟨HL.out, ⟨Nat.le_refl _, by omega⟩, .inr ⟨w.heap.size, 0, rfl, Nat.le_refl _, Nat.lt_succ_self _, fun i hi => ⟨_, ?_, rfl⟩⟩⟩
        have := hrow.cell hi
        rw [Nat.zero_add, this]
        simp [partV, hkn, hi]
      have HB : Hid (Below w.heap.size w wr) := hbel
      have HFr : Hid (Free w.heap.size wr.heap.size wr) := fun b h1 h2 o => by
        have e : b = w.heap.size := by omega
        subst e
        exact hrow.frozen o
      clear hrow hbel hkn
      go_wp2
      go_ret
      exact ⟨rfl, HRd.out, HB.out, hsz, HFr.out⟩

set_option maxHeartbeats 800000 in
theorem toIntS_fr (a : Option Addr) (n cap : Nat) (xs : List Int) (w : World) {lo hi : Nat} (h : RI lo hi w a n cap xs) (hhi : hi ≤ w.heap.size) (hn : n ≤ 1048576) :
    Calls Try.prog 33 #[.slice a n cap] w fun e w' => e = .returned (.slice (some ⟨w.heap.size, 0, none⟩) n n) ∧ RI w.heap.size (w.heap.size + 1) w' (some ⟨w.heap.size, 0, none⟩) n n xs ∧ Below w.heap.size w w' ∧ w'.heap.size = w.heap.size + 1 ∧ Free w.heap.size w'.heap.size w' := by
  obtain ⟨hl, ⟨hm, _⟩, hc⟩ := h
  have hmk := fun w : World => run_make_row' (P := Try.prog) 24 3 (.int .i64 0) 8 Try.underlying24 Try.info3w rfl .i64 .i64 n (by omega) (by omega) w
  have HL : Hid (xs.length = n) := hl
  have HCell : Hid (∀ k, k < n → ∃ b off, a = some ⟨b, off, none⟩ ∧ b < w.heap.size ∧ w.cell? ⟨b, off + k, none⟩ = some (.int .i64 (xs.getD k 0))) := by
    intro k hk
    rcases hc with h0 | ⟨b, off, e, _, hb, hcs⟩
    · omega
    · obtain ⟨v, hv, rfl⟩ := hcs k hk
      exact ⟨b, off, e, by omega, hv⟩
  have h0 : Hid ((w.alloc (.cells (madeCells #[(.int .i64 0)] n) 3)).rowIs w.heap.size 3 n (partV (.int .i64 0) (fun i => (.int .i64 (xs.getD i 0))) 0)) := (World.rowIs_made w (.int .i64 0) n 3).congr (fun i _ => by simp [partV])
  clear hc hl
  go_enter Try.func33, Try.ntmps33
  go_wp2
  go_loopw [4] (fun i wr => ∃ k : Nat, k ≤ n ∧ i = .int .i64 k ∧ wr.rowIs w.heap.size 3 n (partV (.int .i64 0) (fun i => (.int .i64 (xs.getD i 0))) k) ∧ Below w.heap.size w wr ∧ wr.heap.size = w.heap.size + 1) (fun i _ => n - (intOf i).toNat)
  case atStart => exact ⟨0, Nat.zero_le _, rfl, h0.out, (Below.refl _ _).alloc (Nat.le_refl _) _, by simp⟩
  case round =>
    obtain ⟨k, hk, rfl, hrow, hbel, hsz⟩ := hrel
    by_cases hlt : k < n
    · obtain ⟨b, off, ha, hb, hcell⟩ := HCell.out k hlt
      subst ha
      obtain ⟨c, hcc⟩ : ∃ c, c = xs.getD k 0 := ⟨_, rfl⟩
      have HC : Hid (c = xs.getD k 0) := hcc
      rw [← hcc] at hcell
      have hck : wr.cell? ⟨b, off + k, none⟩ = some (.int .i64 (c)) := by rw [hbel.cell (p := ⟨b, off + k, none⟩) hb]; exact hcell
      have hfz := hrow.frozen k
      have hold : wr.cell? ⟨w.heap.size, k, none⟩ = some (.int .i64 0) := by have := hrow.cell hlt; simpa [partV] using this
      have HR : Hid ((wr.setCell ⟨w.heap.size, k, none⟩ (.int .i64 (c))).rowIs w.heap.size 3 n (partV (.int .i64 0) (fun i => (.int .i64 (xs.getD i 0))) (k + 1))) := by
        refine (partV_step _ hrow).congr fun i _ => ?_
        unfold partV
        by_cases e : i = k
        · subst e; rw [HC.out]; simp
        · simp [e]
      have HB : Hid (Below w.heap.size w (wr.setCell ⟨w.heap.size, k, none⟩ (.int .i64 (c)))) := hbel.setCell (Nat.le_refl _) _
      have hki : (k : Int) < (n : Int) := by omega
      clear hrow hbel hcc hcell
      go_wp2
      go_roundw
      case rel => exact ⟨k + 1, by omega, by go_num, HR.out, HB.out, by simpa using hsz⟩
      case measure => simp [intOf]; omega
    · have hkn : k = n := by omega
      have HRd : Hid (RI w.heap.size (w.heap.size + 1) wr (some ⟨w.heap.size, 0, none⟩) n n xs) := by
        refine ⟨HL.out, ⟨Nat.le_refl _, by omega⟩, .inr ⟨w.heap.size, 0, rfl, Nat.le_refl _, Nat.lt_succ_self _, fun i hi => ⟨_, ?_, rfl⟩⟩⟩
        have := hrow.cell hi
        rw [Nat.zero_add, this]
        simp [partV, hkn, hi]
      have HB : Hid (Below w.heap.size w wr) := hbel
      have HFr : Hid (Free w.heap.size wr.heap.size wr) := fun b h1 h2 o => by
        have e : b = w.heap.size := by omega
        subst e
        exact hrow.frozen o
      clear hrow hbel hkn
      go_wp2
      go_ret
      exact ⟨rfl, HRd.out, HB.out, hsz, HFr.out⟩

set_option maxHeartbeats 1600000 in
theorem toByteSS_fr (a : Option Addr) (n cap : Nat) (xs : List (List Int)) (w : World) {lo hi : Nat} (h : RSS lo hi w a n cap xs) (hhi : hi ≤ w.heap.size) (hn : n ≤ 1048576) (hln : ∀ i, i < n → (xs.getD i []).length ≤ 1048576) :
    Calls Try.prog 31 #[.slice a n cap] w fun e w' => e = .returned (.slice (some ⟨w.heap.size, 0, none⟩) n n) ∧ RSS w.heap.size w'.heap.size w' (some ⟨w.heap.size, 0, none⟩) n n xs ∧ Below w.heap.size w w' ∧ Free w.heap.size w'.heap.size w' := by
  have HR0 : Hid (RSS lo hi w a n cap xs) := h
  obtain ⟨hl, ⟨hm, _⟩, _⟩ := h
  have hmk := fun w : World => run_make_row' (P := Try.prog) 22 27 (.slice none 0 0) 24 Try.underlying22 Try.infotoByteSS rfl .i64 .i64 n (by omega) (by omega) w
  have HL : Hid (xs.length = n) := hl
  have h0 : Hid ((w.alloc (.cells (madeCells #[(.slice none 0 0)] n) 27)).rowIs w.heap.size 27 n (partV (.slice none 0 0) (fun _ => (.slice none 0 0)) 0)) := (World.rowIs_made w (.slice none 0 0) n 27).congr (fun i _ => by simp [partV])
  have HLn0 : Hid (∀ i, i < n → (xs.getD i []).length ≤ 1048576) := hln
  clear hl hln
  go_enter Try.func31, Try.ntmps31
  go_wp2_with fail
  go_loopw [4] (fun i wr => ∃ (k : Nat) (V : Nat → Value), k ≤ n ∧ i = .int .i64 k ∧ wr.rowIs w.heap.size 27 n (partV (.slice none 0 0) V k) ∧ (∀ j, j < k → SlB (w.heap.size + 1) wr.heap.size wr (V j) (xs.getD j [])) ∧ Below w.heap.size w wr ∧ w.heap.size + 1 ≤ wr.heap.size ∧ Free (w.heap.size + 1) wr.heap.size wr) (fun i _ => n - (intOf i).toNat)
  case atStart => exact ⟨0, _, Nat.zero_le _, rfl, h0.out, fun j hj => by omega, (Below.refl _ _).alloc (Nat.le_refl _) _, by simp, by rw [World.size_alloc]; exact Free.nil _ _⟩
  case round =>
    obtain ⟨k, V, hk, rfl, hrow, hkids, hbel, hsz, hfr⟩ := hrel
    have HFr : Hid (Free (w.heap.size + 1) wr.heap.size wr) := hfr
    clear hfr
    have HB : Hid (Below w.heap.size w wr) := hbel
    have HRow : Hid (wr.rowIs w.heap.size 27 n (partV (.slice none 0 0) V k)) := hrow
    have HKids : Hid (∀ j, j < k → SlB (w.heap.size + 1) wr.heap.size wr (V j) (xs.getD j [])) := hkids
    by_cases hlt : k < n
    · have hR := HR0.out.below hbel hhi
      rcases hR.cells with hz | ⟨b, off, e1, _, hbhi, hc⟩
      · omega
      · subst e1
        obtain ⟨v, c0, ea, en, ec, rfl, hr0⟩ := hc k hlt
        have hr : Hid (Rd lo hi wr ea en ec (xs.getD k [])) := hr0
        have hki : (k : Int) < (n : Int) := by omega
        have HLn : Hid (∀ i, i < n → en ≤ 1048576) := by intro i hi; have := HLn0.out k hlt; rw [hr0.len] at this; exact this
        clear hR hc hr0 hrow hkids hbel
        go_wp2_with fail
        refine (toByteS_one ea en ec (xs.getD k []) wr hr.out (Nat.le_trans hhi HB.out.size) (HLn.out k hlt)).mono ?_
        rintro e w' ⟨rfl, hrow', hb', hs'⟩
        have HNew : Hid (SlB wr.heap.size w'.heap.size w' (.slice (some ⟨wr.heap.size, 0, none⟩) en en) (xs.getD k [])) := ⟨_, _, _, rfl, hrow'.rd hr.out.len hr.out.byte (by have := HLn.out k hlt; omega) (Nat.le_refl _) hrow'.lt⟩
        have hfr2 : Free (w.heap.size + 1) w'.heap.size w' := HFr.out.next hb' (free_row hrow' hs')
        have hrow2 : w'.rowIs w.heap.size 27 n (partV (.slice none 0 0) V k) := rowIs_block HRow.out (hb'.block _ (rowIs_lt HRow.out))
        have hfz := hrow2.frozen k
        have hold : w'.cell? ⟨w.heap.size, k, none⟩ = some (.slice none 0 0) := by have := hrow2.cell hlt; simpa [partV] using this
        obtain ⟨U, hU⟩ : ∃ U, U = w'.setCell ⟨w.heap.size, k, none⟩ (.slice (some ⟨wr.heap.size, 0, none⟩) en en) := ⟨_, rfl⟩
        have HU : Hid (U = w'.setCell ⟨w.heap.size, k, none⟩ (.slice (some ⟨wr.heap.size, 0, none⟩) en en)) := hU
        have hsU : U.heap.size = w'.heap.size := by rw [hU]; simp
        have hsm : Same (w.heap.size + 1) w'.heap.size w' U := by rw [hU]; exact fun b h1 _ => Below.heap_setCell w' ⟨w.heap.size, k, none⟩ _ b (by show b ≠ w.heap.size; omega)
        have HR2 : Hid (U.rowIs w.heap.size 27 n (partV (.slice none 0 0) (fun i => if i = k then .slice (some ⟨wr.heap.size, 0, none⟩) en en else V i) (k + 1))) := by unfold Hid; rw [hU]; exact partV_step _ hrow2
        have HFr2 : Hid (Free (w.heap.size + 1) U.heap.size U) := by unfold Hid; rw [hsU, hU]; exact hfr2.set _ _
        clear hfr2
        have HB2 : Hid (Below w.heap.size w U) := by unfold Hid; rw [hU]; exact (HB.out.trans (hb'.mono HB.out.size)).setCell (Nat.le_refl _) _
        have HK2 : Hid (∀ j, j < k + 1 → SlB (w.heap.size + 1) U.heap.size U (if j = k then .slice (some ⟨wr.heap.size, 0, none⟩) en en else V j) (xs.getD j [])) := by
          intro j hj
          rw [hsU]
          by_cases e : j = k
          · subst e
            rw [if_pos rfl]
            exact (HNew.out.mono (by omega) (Nat.le_refl _)).same hsm
          · rw [if_neg e]
            exact (((HKids.out j (by omega)).same (Same.of_below hb' (Nat.le_refl _))).mono (Nat.le_refl _) hb'.size).same hsm
        have hsz2 : w.heap.size + 1 ≤ U.heap.size := by have := hb'.size; omega
        clear hrow' hb' hrow2 hsm hU
        go_wp2_with fail
        rw [← HU.out]
        go_roundw
        case rel => exact ⟨k + 1, _, by omega, by go_num, HR2.out, HK2.out, HB2.out, hsz2, HFr2.out⟩
        case measure => simp [intOf]; omega
    · have hkn : k = n := by omega
      have HRd : Hid (RSS w.heap.size wr.heap.size wr (some ⟨w.heap.size, 0, none⟩) n n xs) := by
        refine ⟨HL.out, ⟨Nat.le_refl _, by omega⟩, .inr ⟨w.heap.size, 0, rfl, Nat.le_refl _, by omega, fun i hi => ⟨V i, ?_, (HKids.out i (by omega)).mono (by omega) (Nat.le_refl _)⟩⟩⟩
        have := HRow.out.cell hi
        rw [Nat.zero_add, this]
        simp [partV, hkn, hi]
      have HFz : Hid (Free w.heap.size wr.heap.size wr) := fun b h1 h2 o => by
        by_cases e : b = w.heap.size
        · subst e; exact HRow.out.frozen o
        · exact HFr.out b (by omega) h2 o
      clear hrow hkids hbel hkn
      go_wp2_with fail
      go_ret
      exact ⟨rfl, HRd.out, HB.out, HFz.out⟩

set_option maxHeartbeats 1600000 in
theorem toBoolSS_fr (a : Option Addr) (n cap : Nat) (xs : List (List Bool)) (w : World) {lo hi : Nat} (h : RFF lo hi w a n cap xs) (hhi : hi ≤ w.heap.size) (hn : n ≤ 1048576) (hln : ∀ i, i < n → (xs.getD i []).length ≤ 1048576) :
    Calls Try.prog 32 #[.slice a n cap] w fun e w' => e = .returned (.slice (some ⟨w.heap.size, 0, none⟩) n n) ∧ RFF w.heap.size w'.heap.size w' (some ⟨w.heap.size, 0, none⟩) n n xs ∧ Below w.heap.size w w' ∧ Free w.heap.size w'.heap.size w' := by
  have HR0 : Hid (RFF lo hi w a n cap xs) := h
  obtain ⟨hl, ⟨hm, _⟩, _⟩ := h
  have hmk := fun w : World => run_make_row' (P := Try.prog) 23 69 (.slice none 0 0) 24 Try.underlying23 Try.infotoBoolSS rfl .i64 .i64 n (by omega) (by omega) w
  have HL : Hid (xs.length = n) := hl
  have h0 : Hid ((w.alloc (.cells (madeCells #[(.slice none 0 0)] n) 69)).rowIs w.heap.size 69 n (partV (.slice none 0 0) (fun _ => (.slice none 0 0)) 0)) := (World.rowIs_made w (.slice none 0 0) n 69).congr (fun i _ => by simp [partV])
  have HLn0 : Hid (∀ i, i < n → (xs.getD i []).length ≤ 1048576) := hln
  clear hl hln
  go_enter Try.func32, Try.ntmps32
  go_wp2_with fail
  go_loopw [4] (fun i wr => ∃ (k : Nat) (V : Nat → Value), k ≤ n ∧ i = .int .i64 k ∧ wr.rowIs w.heap.size 69 n (partV (.slice none 0 0) V k) ∧ (∀ j, j < k → SlF (w.heap.size + 1) wr.heap.size wr (V j) (xs.getD j [])) ∧ Below w.heap.size w wr ∧ w.heap.size + 1 ≤ wr.heap.size ∧ Free (w.heap.size + 1) wr.heap.size wr) (fun i _ => n - (intOf i).toNat)
  case atStart => exact ⟨0, _, Nat.zero_le _, rfl, h0.out, fun j hj => by omega, (Below.refl _ _).alloc (Nat.le_refl _) _, by simp, by rw [World.size_alloc]; exact Free.nil _ _⟩
  case round =>
    obtain ⟨k, V, hk, rfl, hrow, hkids, hbel, hsz, hfr⟩ := hrel
    have HFr : Hid (Free (w.heap.size + 1) wr.heap.size wr) := hfr
    clear hfr
    have HB : Hid (Below w.heap.size w wr) := hbel
    have HRow : Hid (wr.rowIs w.heap.size 69 n (partV (.slice none 0 0) V k)) := hrow
    have HKids : Hid (∀ j, j < k → SlF (w.heap.size + 1) wr.heap.size wr (V j) (xs.getD j [])) := hkids
    by_cases hlt : k < n
    · have hR := HR0.out.below hbel hhi
      rcases hR.cells with hz | ⟨b, off, e1, _, hbhi, hc⟩
      · omega
      · subst e1
        obtain ⟨v, c0, ea, en, ec, rfl, hr0⟩ := hc k hlt
        have hr : Hid (RB lo hi wr ea en ec (xs.getD k [])) := hr0
        have hki : (k : Int) < (n : Int) := by omega
        have HLn : Hid (∀ i, i < n → en ≤ 1048576) := by intro i hi; have := HLn0.out k hlt; rw [hr0.len] at this; exact this
        clear hR hc hr0 hrow hkids hbel
        go_wp2_with fail
        refine (toBoolS_fr ea en ec (xs.getD k []) wr hr.out (Nat.le_trans hhi HB.out.size) (HLn.out k hlt)).mono ?_
        rintro e w' ⟨rfl, hrow', hb', hs', hf'⟩
        have HNew : Hid (SlF wr.heap.size w'.heap.size w' (.slice (some ⟨wr.heap.size, 0, none⟩) en en) (xs.getD k [])) := ⟨_, _, _, rfl, hrow'.mono (Nat.le_refl _) (by omega)⟩
        have hfr2 : Free (w.heap.size + 1) w'.heap.size w' := HFr.out.next hb' (hf')
        have hrow2 : w'.rowIs w.heap.size 69 n (partV (.slice none 0 0) V k) := rowIs_block HRow.out (hb'.block _ (rowIs_lt HRow.out))
        have hfz := hrow2.frozen k
        have hold : w'.cell? ⟨w.heap.size, k, none⟩ = some (.slice none 0 0) := by have := hrow2.cell hlt; simpa [partV] using this
        obtain ⟨U, hU⟩ : ∃ U, U = w'.setCell ⟨w.heap.size, k, none⟩ (.slice (some ⟨wr.heap.size, 0, none⟩) en en) := ⟨_, rfl⟩
        have HU : Hid (U = w'.setCell ⟨w.heap.size, k, none⟩ (.slice (some ⟨wr.heap.size, 0, none⟩) en en)) := hU
        have hsU : U.heap.size = w'.heap.size := by rw [hU]; simp
        have hsm : Same (w.heap.size + 1) w'.heap.size w' U := by rw [hU]; exact fun b h1 _ => Below.heap_setCell w' ⟨w.heap.size, k, none⟩ _ b (by show b ≠ w.heap.size; omega)
        have HR2 : Hid (U.rowIs w.heap.size 69 n (partV (.slice none 0 0) (fun i => if i = k then .slice (some ⟨wr.heap.size, 0, none⟩) en en else V i) (k + 1))) := by unfold Hid; rw [hU]; exact partV_step _ hrow2
        have HFr2 : Hid (Free (w.heap.size + 1) U.heap.size U) := by unfold Hid; rw [hsU, hU]; exact hfr2.set _ _
        clear hfr2
        have HB2 : Hid (Below w.heap.size w U) := by unfold Hid; rw [hU]; exact (HB.out.trans (hb'.mono HB.out.size)).setCell (Nat.le_refl _) _
        have HK2 : Hid (∀ j, j < k + 1 → SlF (w.heap.size + 1) U.heap.size U (if j = k then .slice (some ⟨wr.heap.size, 0, none⟩) en en else V j) (xs.getD j [])) := by
          intro j hj
          rw [hsU]
          by_cases e : j = k
          · subst e
            rw [if_pos rfl]
            exact (HNew.out.mono (by omega) (Nat.le_refl _)).same hsm
          · rw [if_neg e]
            exact (((HKids.out j (by omega)).same (Same.of_below hb' (Nat.le_refl _))).mono (Nat.le_refl _) hb'.size).same hsm
        have hsz2 : w.heap.size + 1 ≤ U.heap.size := by have := hb'.size; omega
        clear hrow' hb' hrow2 hsm hU
        go_wp2_with fail
        rw [← HU.out]
        go_roundw
        case rel => exact ⟨k + 1, _, by omega, by go_num, HR2.out, HK2.out, HB2.out, hsz2, HFr2.out⟩
        case measure => simp [intOf]; omega
    · have hkn : k = n := by omega
      have HRd : Hid (RFF w.heap.size wr.heap.size wr (some ⟨w.heap.size, 0, none⟩) n n xs) := by
        refine ⟨HL.out, ⟨Nat.le_refl _, by omega⟩, .inr ⟨w.heap.size, 0, rfl, Nat.le_refl _, by omega, fun i hi => ⟨V i, ?_, (HKids.out i (by omega)).mono (by omega) (Nat.le_refl _)⟩⟩⟩
        have := HRow.out.cell hi
        rw [Nat.zero_add, this]
        simp [partV, hkn, hi]
      have HFz : Hid (Free w.heap.size wr.heap.size wr) := fun b h1 h2 o => by
        by_cases e : b = w.heap.size
        · subst e; exact HRow.out.frozen o
        · exact HFr.out b (by omega) h2 o
      clear hrow hkids hbel hkn
      go_wp2_with fail
      go_ret
      exact ⟨rfl, HRd.out, HB.out, HFz.out⟩

set_option maxRecDepth 100000 in
set_option maxHeartbeats 4000000 in
theorem toW_fr {na : Option Addr} {nn nc : Nat} {sa : Option Addr} {sn sc : Nat} {ra : Option Addr} {rn rc : Nat} {la : Option Addr} {ln lc : Nat} {ia : Option Addr} {im ic : Nat} {ta : Option Addr} {tn tc : Nat} {x : WD} {w : World} {lo hi : Nat} (h : RdW lo hi w na nn nc sa sn sc ra rn rc la ln lc ia im ic ta tn tc x) (hhi : hi ≤ w.heap.size) (hbd : BdW x nn sn rn ln im tn) (nx : Int) :
    Calls Try.prog 8 #[.agg #[.int .i64 nx, .slice na nn nc, .slice sa sn sc, .slice ra rn rc, .slice la ln lc, .slice ia im ic, .slice ta tn tc]] w fun e w' => ∃ g0 g1 g2 g3 g4 g5, e = .returned (.agg #[.int .i64 nx, .slice (some ⟨g0, 0, none⟩) nn nn, .slice (some ⟨g1, 0, none⟩) sn sn, .slice (some ⟨g2, 0, none⟩) rn rn, .slice (some ⟨g3, 0, none⟩) ln ln, .slice (some ⟨g4, 0, none⟩) im im, .slice (some ⟨g5, 0, none⟩) tn tn]) ∧ RdW w.heap.size w'.heap.size w' (some ⟨g0, 0, none⟩) nn nn (some ⟨g1, 0, none⟩) sn sn (some ⟨g2, 0, none⟩) rn rn (some ⟨g3, 0, none⟩) ln ln (some ⟨g4, 0, none⟩) im im (some ⟨g5, 0, none⟩) tn tn x ∧ Below w.heap.size w w' ∧ Free w.heap.size w'.heap.size w' := by
  obtain ⟨W1, hW1⟩ : ∃ W1, W1 = ((w.alloc (.cells #[.int .i64 nx, .slice na nn nc, .slice sa sn sc, .slice ra rn rc, .slice la ln lc, .slice ia im ic, .slice ta tn tc] 26)).alloc (.cells #[.int .i64 0, .slice none 0 0, .slice none 0 0, .slice none 0 0, .slice none 0 0, .slice none 0 0, .slice none 0 0] 34)).alloc (.cells #[.int .i64 nx, .slice none 0 0, .slice none 0 0, .slice none 0 0, .slice none 0 0, .slice none 0 0, .slice none 0 0] 34) := ⟨_, rfl⟩
  have HW1 : Hid (W1 = ((w.alloc (.cells #[.int .i64 nx, .slice na nn nc, .slice sa sn sc, .slice ra rn rc, .slice la ln lc, .slice ia im ic, .slice ta tn tc] 26)).alloc (.cells #[.int .i64 0, .slice none 0 0, .slice none 0 0, .slice none 0 0, .slice none 0 0, .slice none 0 0, .slice none 0 0] 34)).alloc (.cells #[.int .i64 nx, .slice none 0 0, .slice none 0 0, .slice none 0 0, .slice none 0 0, .slice none 0 0, .slice none 0 0] 34)) := hW1
  have hs1 : W1.heap.size = w.heap.size + 3 := by rw [hW1]; simp
  have hb0 : Below w.heap.size w W1 := by rw [hW1]; exact (((Below.refl _ _).alloc (Nat.le_refl _) _).alloc (by simp) _).alloc (by simp; omega) _
  have HB0 : Hid (Below w.heap.size w W1) := hb0
  have hlx : BoxW 26 W1 w.heap.size nx (.slice na nn nc) (.slice sa sn sc) (.slice ra rn rc) (.slice la ln lc) (.slice ia im ic) (.slice ta tn tc) := by rw [hW1]; exact ((BoxW.new _ w _ _ _ _ _ _ _).below ((Below.refl _ _).alloc (Nat.le_refl _) _) (by simp)).below ((Below.refl _ _).alloc (Nat.le_refl _) _) (by simp; omega)
  have hrx : BoxW 34 W1 (w.heap.size + 1) 0 (.slice none 0 0) (.slice none 0 0) (.slice none 0 0) (.slice none 0 0) (.slice none 0 0) (.slice none 0 0) := by
    rw [hW1]
    have := BoxW.new 34 (w.alloc (.cells #[.int .i64 nx, .slice na nn nc, .slice sa sn sc, .slice ra rn rc, .slice la ln lc, .slice ia im ic, .slice ta tn tc] 26)) 0 (.slice none 0 0) (.slice none 0 0) (.slice none 0 0) (.slice none 0 0) (.slice none 0 0) (.slice none 0 0)
    rw [World.size_alloc] at this
    exact this.below ((Below.refl _ _).alloc (Nat.le_refl _) _) (by simp)
  have hox : BoxW 34 W1 (w.heap.size + 1 + 1) nx (.slice none 0 0) (.slice none 0 0) (.slice none 0 0) (.slice none 0 0) (.slice none 0 0) (.slice none 0 0) := by
    rw [hW1]
    have := BoxW.new 34 ((w.alloc (.cells #[.int .i64 nx, .slice na nn nc, .slice sa sn sc, .slice ra rn rc, .slice la ln lc, .slice ia im ic, .slice ta tn tc] 26)).alloc (.cells #[.int .i64 0, .slice none 0 0, .slice none 0 0, .slice none 0 0, .slice none 0 0, .slice none 0 0, .slice none 0 0] 34)) nx (.slice none 0 0) (.slice none 0 0) (.slice none 0 0) (.slice none 0 0) (.slice none 0 0) (.slice none 0 0)
    rwa [World.size_alloc, World.size_alloc] at this
  have HLx : Hid (∀ W, Below (w.heap.size + 2) W1 W → BoxW 26 W w.heap.size nx (.slice na nn nc) (.slice sa sn sc) (.slice ra rn rc) (.slice la ln lc) (.slice ia im ic) (.slice ta tn tc)) := fun W hW => hlx.below hW (by omega)
  have HRx : Hid (∀ W, Below (w.heap.size + 2) W1 W → BoxW 34 W (w.heap.size + 1) 0 (.slice none 0 0) (.slice none 0 0) (.slice none 0 0) (.slice none 0 0) (.slice none 0 0) (.slice none 0 0)) := fun W hW => hrx.below hW (by omega)
  have HOx0 : Hid (BoxW 34 W1 (w.heap.size + 1 + 1) nx (.slice none 0 0) (.slice none 0 0) (.slice none 0 0) (.slice none 0 0) (.slice none 0 0) (.slice none 0 0)) := hox
  have HS1 : Hid (W1.heap.size = w.heap.size + 3) := hs1
  have HRd : Hid (∀ W, Below (w.heap.size + 2) W1 W → RdW lo hi W na nn nc sa sn sc ra rn rc la ln lc ia im ic ta tn tc x ∧ hi ≤ W.heap.size) := fun W hW => ⟨(h.below hb0 hhi).below hW (by omega), Nat.le_trans (Nat.le_trans hhi hb0.size) hW.size⟩
  have HBd : Hid (BdW x nn sn rn ln im tn) := hbd
  have HU0 : Hid (Below (w.heap.size + 2) W1 W1) := Below.refl _ _
  obtain ⟨z0, z1, z2, z3, z4, z5, z6⟩ := hlx.cells
  have hne0 : w.heap.size ≠ w.heap.size + 1 + 1 := by omega
  clear h hb0 hW1 hlx hrx hox hbd hs1
  go_enter Try.func8, Try.ntmps8
  go_upto_region 3 with fail
  rw [← HW1.out]
  go_wp2_with fail
  refine (toByteSS_fr na nn nc x.names W1 (HRd.out _ HU0.out).1.names (HRd.out _ HU0.out).2 HBd.out.n.1 HBd.out.n.2).mono ?_
  rintro e v1 ⟨rfl, hrd0, hb0, hfn0⟩
  obtain ⟨g0, hg0⟩ : ∃ g, g = W1.heap.size := ⟨_, rfl⟩
  rw [← hg0] at hrd0 ⊢
  have hsb0 := hb0.size
  have hu0 := HU0.out.size
  have hox0 := HOx0.out.below hb0 HOx0.out.lt
  obtain ⟨o0, o1, o2, o3, o4, o5, o6⟩ := hox0.cells
  have gf := hox0.frz 1
  obtain ⟨U1, hE⟩ : ∃ U, U = v1.setCell ⟨w.heap.size + 1 + 1, 1, none⟩ (.slice (some ⟨g0, 0, none⟩) nn nn) := ⟨_, rfl⟩
  have HE1 : Hid (U1 = v1.setCell ⟨w.heap.size + 1 + 1, 1, none⟩ (.slice (some ⟨g0, 0, none⟩) nn nn)) := hE
  have HOx1 : Hid (BoxW 34 U1 (w.heap.size + 1 + 1) nx (.slice (some ⟨g0, 0, none⟩) nn nn) (.slice none 0 0) (.slice none 0 0) (.slice none 0 0) (.slice none 0 0) (.slice none 0 0)) := by unfold Hid; rw [hE]; exact hox0.at 1 _
  have hsU : U1.heap.size = v1.heap.size := by rw [hE]; simp
  have HV0 : Hid (Below (w.heap.size + 2) W1 v1) := HU0.out.trans (hb0.mono (by have := HS1.out; omega))
  have HU1 : Hid (Below (w.heap.size + 2) W1 U1) := by unfold Hid; rw [hE]; exact HV0.out.setCell (by show w.heap.size + 2 ≤ w.heap.size + 1 + 1; omega) _
  have hsm : Same W1.heap.size v1.heap.size v1 U1 := by
    rw [hE]
    have hp := HS1.out
    exact fun b h1 _ => Below.heap_setCell v1 ⟨w.heap.size + 1 + 1, 1, none⟩ _ b (by show b ≠ w.heap.size + 1 + 1; omega)
  have HFr0 : Hid (Free W1.heap.size U1.heap.size U1) := by unfold Hid; rw [hsU, hE]; exact Free.set (Free.next (w := W1) (Free.nil _ _) hb0 hfn0) _ _
  clear hfn0
  have HG0 : Hid (RSS W1.heap.size U1.heap.size U1 (some ⟨g0, 0, none⟩) nn nn x.names) := by
    have hp := HS1.out
    rw [Hid, hsU]
    exact (hrd0.mono (by omega) (Nat.le_refl _)).same hsm
  clear hrd0 hb0 hox0 hE hsm hg0 z0 z1 z2 z3 z4 z5 z6
  obtain ⟨z0, z1, z2, z3, z4, z5, z6⟩ := (HLx.out _ HV0.out).cells
  have hk0 := hsU
  clear hsU
  go_wp2_with fail
  rw [← HE1.out]
  refine (toBoolSS_fr sa sn sc x.sets U1 (HRd.out _ HU1.out).1.sets (HRd.out _ HU1.out).2 HBd.out.s.1 HBd.out.s.2).mono ?_
  rintro e v2 ⟨rfl, hrd1, hb1, hfn1⟩
  obtain ⟨g1, hg1⟩ : ∃ g, g = U1.heap.size := ⟨_, rfl⟩
  rw [← hg1] at hrd1 ⊢
  have hsb1 := hb1.size
  have hu1 := HU1.out.size
  clear o0 o1 o2 o3 o4 o5 o6 gf
  have hox1 := HOx1.out.below hb1 HOx1.out.lt
  obtain ⟨o0, o1, o2, o3, o4, o5, o6⟩ := hox1.cells
  have gf := hox1.frz 2
  obtain ⟨U2, hE⟩ : ∃ U, U = v2.setCell ⟨w.heap.size + 1 + 1, 2, none⟩ (.slice (some ⟨g1, 0, none⟩) sn sn) := ⟨_, rfl⟩
  have HE2 : Hid (U2 = v2.setCell ⟨w.heap.size + 1 + 1, 2, none⟩ (.slice (some ⟨g1, 0, none⟩) sn sn)) := hE
  have HOx2 : Hid (BoxW 34 U2 (w.heap.size + 1 + 1) nx (.slice (some ⟨g0, 0, none⟩) nn nn) (.slice (some ⟨g1, 0, none⟩) sn sn) (.slice none 0 0) (.slice none 0 0) (.slice none 0 0) (.slice none 0 0)) := by unfold Hid; rw [hE]; exact hox1.at 2 _
  have hsU : U2.heap.size = v2.heap.size := by rw [hE]; simp
  have HV1 : Hid (Below (w.heap.size + 2) W1 v2) := HU1.out.trans (hb1.mono (by have := HS1.out; omega))
  have HU2 : Hid (Below (w.heap.size + 2) W1 U2) := by unfold Hid; rw [hE]; exact HV1.out.setCell (by show w.heap.size + 2 ≤ w.heap.size + 1 + 1; omega) _
  have hsm : Same W1.heap.size v2.heap.size v2 U2 := by
    rw [hE]
    have hp := HS1.out
    exact fun b h1 _ => Below.heap_setCell v2 ⟨w.heap.size + 1 + 1, 2, none⟩ _ b (by show b ≠ w.heap.size + 1 + 1; omega)
  have HFr1 : Hid (Free W1.heap.size U2.heap.size U2) := by unfold Hid; rw [hsU, hE]; exact Free.set (Free.next (w := U1) HFr0.out hb1 hfn1) _ _
  clear hfn1
  have HG1 : Hid (RSS W1.heap.size U2.heap.size U2 (some ⟨g0, 0, none⟩) nn nn x.names ∧ RFF W1.heap.size U2.heap.size U2 (some ⟨g1, 0, none⟩) sn sn x.sets) := by
    have hp := HS1.out
    rw [Hid, hsU]
    exact ⟨((HG0.out.same (Same.of_below hb1 (Nat.le_refl _))).mono (Nat.le_refl _) hb1.size).same hsm, (hrd1.mono (by omega) (Nat.le_refl _)).same hsm⟩
  clear hrd1 hb1 hox1 hE hsm hg1 z0 z1 z2 z3 z4 z5 z6
  obtain ⟨z0, z1, z2, z3, z4, z5, z6⟩ := (HLx.out _ HV1.out).cells
  have hk1 := hsU
  clear hsU
  go_wp2_with fail
  rw [← HE2.out]
  refine (toByteSS_fr ra rn rc x.roles U2 (HRd.out _ HU2.out).1.roles (HRd.out _ HU2.out).2 HBd.out.r.1 HBd.out.r.2).mono ?_
  rintro e v3 ⟨rfl, hrd2, hb2, hfn2⟩
  obtain ⟨g2, hg2⟩ : ∃ g, g = U2.heap.size := ⟨_, rfl⟩
  rw [← hg2] at hrd2 ⊢
  have hsb2 := hb2.size
  have hu2 := HU2.out.size
  clear o0 o1 o2 o3 o4 o5 o6 gf
  have hox2 := HOx2.out.below hb2 HOx2.out.lt
  obtain ⟨o0, o1, o2, o3, o4, o5, o6⟩ := hox2.cells
  have gf := hox2.frz 3
  obtain ⟨U3, hE⟩ : ∃ U, U = v3.setCell ⟨w.heap.size + 1 + 1, 3, none⟩ (.slice (some ⟨g2, 0, none⟩) rn rn) := ⟨_, rfl⟩
  have HE3 : Hid (U3 = v3.setCell ⟨w.heap.size + 1 + 1, 3, none⟩ (.slice (some ⟨g2, 0, none⟩) rn rn)) := hE
  have HOx3 : Hid (BoxW 34 U3 (w.heap.size + 1 + 1) nx (.slice (some ⟨g0, 0, none⟩) nn nn) (.slice (some ⟨g1, 0, none⟩) sn sn) (.slice (some ⟨g2, 0, none⟩) rn rn) (.slice none 0 0) (.slice none 0 0) (.slice none 0 0)) := by unfold Hid; rw [hE]; exact hox2.at 3 _
  have hsU : U3.heap.size = v3.heap.size := by rw [hE]; simp
  have HV2 : Hid (Below (w.heap.size + 2) W1 v3) := HU2.out.trans (hb2.mono (by have := HS1.out; omega))
  have HU3 : Hid (Below (w.heap.size + 2) W1 U3) := by unfold Hid; rw [hE]; exact HV2.out.setCell (by show w.heap.size + 2 ≤ w.heap.size + 1 + 1; omega) _
  have hsm : Same W1.heap.size v3.heap.size v3 U3 := by
    rw [hE]
    have hp := HS1.out
    exact fun b h1 _ => Below.heap_setCell v3 ⟨w.heap.size + 1 + 1, 3, none⟩ _ b (by show b ≠ w.heap.size + 1 + 1; omega)
  have HFr2 : Hid (Free W1.heap.size U3.heap.size U3) := by unfold Hid; rw [hsU, hE]; exact Free.set (Free.next (w := U2) HFr1.out hb2 hfn2) _ _
  clear hfn2
  have HG2 : Hid (RSS W1.heap.size U3.heap.size U3 (some ⟨g0, 0, none⟩) nn nn x.names ∧ RFF W1.heap.size U3.heap.size U3 (some ⟨g1, 0, none⟩) sn sn x.sets ∧ RSS W1.heap.size U3.heap.size U3 (some ⟨g2, 0, none⟩) rn rn x.roles) := by
    have hp := HS1.out
    rw [Hid, hsU]
    exact ⟨((HG1.out.1.same (Same.of_below hb2 (Nat.le_refl _))).mono (Nat.le_refl _) hb2.size).same hsm, ((HG1.out.2.same (Same.of_below hb2 (Nat.le_refl _))).mono (Nat.le_refl _) hb2.size).same hsm, (hrd2.mono (by omega) (Nat.le_refl _)).same hsm⟩
  clear hrd2 hb2 hox2 hE hsm hg2 z0 z1 z2 z3 z4 z5 z6
  obtain ⟨z0, z1, z2, z3, z4, z5, z6⟩ := (HLx.out _ HV2.out).cells
  have hk2 := hsU
  clear hsU
  go_wp2_with fail
  rw [← HE3.out]
  refine (toBoolSS_fr la ln lc x.rels U3 (HRd.out _ HU3.out).1.rels (HRd.out _ HU3.out).2 HBd.out.l.1 HBd.out.l.2).mono ?_
  rintro e v4 ⟨rfl, hrd3, hb3, hfn3⟩
  obtain ⟨g3, hg3⟩ : ∃ g, g = U3.heap.size := ⟨_, rfl⟩
  rw [← hg3] at hrd3 ⊢
  have hsb3 := hb3.size
  have hu3 := HU3.out.size
  clear o0 o1 o2 o3 o4 o5 o6 gf
  have hox3 := HOx3.out.below hb3 HOx3.out.lt
  obtain ⟨o0, o1, o2, o3, o4, o5, o6⟩ := hox3.cells
  have gf := hox3.frz 4
  obtain ⟨U4, hE⟩ : ∃ U, U = v4.setCell ⟨w.heap.size + 1 + 1, 4, none⟩ (.slice (some ⟨g3, 0, none⟩) ln ln) := ⟨_, rfl⟩
  have HE4 : Hid (U4 = v4.setCell ⟨w.heap.size + 1 + 1, 4, none⟩ (.slice (some ⟨g3, 0, none⟩) ln ln)) := hE
  have HOx4 : Hid (BoxW 34 U4 (w.heap.size + 1 + 1) nx (.slice (some ⟨g0, 0, none⟩) nn nn) (.slice (some ⟨g1, 0, none⟩) sn sn) (.slice (some ⟨g2, 0, none⟩) rn rn) (.slice (some ⟨g3, 0, none⟩) ln ln) (.slice none 0 0) (.slice none 0 0)) := by unfold Hid; rw [hE]; exact hox3.at 4 _
  have hsU : U4.heap.size = v4.heap.size := by rw [hE]; simp
  have HV3 : Hid (Below (w.heap.size + 2) W1 v4) := HU3.out.trans (hb3.mono (by have := HS1.out; omega))
  have HU4 : Hid (Below (w.heap.size + 2) W1 U4) := by unfold Hid; rw [hE]; exact HV3.out.setCell (by show w.heap.size + 2 ≤ w.heap.size + 1 + 1; omega) _
  have hsm : Same W1.heap.size v4.heap.size v4 U4 := by
    rw [hE]
    have hp := HS1.out
    exact fun b h1 _ => Below.heap_setCell v4 ⟨w.heap.size + 1 + 1, 4, none⟩ _ b (by show b ≠ w.heap.size + 1 + 1; omega)
  have HFr3 : Hid (Free W1.heap.size U4.heap.size U4) := by unfold Hid; rw [hsU, hE]; exact Free.set (Free.next (w := U3) HFr2.out hb3 hfn3) _ _
  clear hfn3
  have HG3 : Hid (RSS W1.heap.size U4.heap.size U4 (some ⟨g0, 0, none⟩) nn nn x.names ∧ RFF W1.heap.size U4.heap.size U4 (some ⟨g1, 0, none⟩) sn sn x.sets ∧ RSS W1.heap.size U4.heap.size U4 (some ⟨g2, 0, none⟩) rn rn x.roles ∧ RFF W1.heap.size U4.heap.size U4 (some ⟨g3, 0, none⟩) ln ln x.rels) := by
    have hp := HS1.out
    rw [Hid, hsU]
    exact ⟨((HG2.out.1.same (Same.of_below hb3 (Nat.le_refl _))).mono (Nat.le_refl _) hb3.size).same hsm, ((HG2.out.2.1.same (Same.of_below hb3 (Nat.le_refl _))).mono (Nat.le_refl _) hb3.size).same hsm, ((HG2.out.2.2.same (Same.of_below hb3 (Nat.le_refl _))).mono (Nat.le_refl _) hb3.size).same hsm, (hrd3.mono (by omega) (Nat.le_refl _)).same hsm⟩
  clear hrd3 hb3 hox3 hE hsm hg3 z0 z1 z2 z3 z4 z5 z6
  obtain ⟨z0, z1, z2, z3, z4, z5, z6⟩ := (HLx.out _ HV3.out).cells
  have hk3 := hsU
  clear hsU
  go_wp2_with fail
  rw [← HE4.out]
  refine (toByteSS_fr ia im ic x.inds U4 (HRd.out _ HU4.out).1.inds (HRd.out _ HU4.out).2 HBd.out.i.1 HBd.out.i.2).mono ?_
  rintro e v5 ⟨rfl, hrd4, hb4, hfn4⟩
  obtain ⟨g4, hg4⟩ : ∃ g, g = U4.heap.size := ⟨_, rfl⟩
  rw [← hg4] at hrd4 ⊢
  have hsb4 := hb4.size
  have hu4 := HU4.out.size
  clear o0 o1 o2 o3 o4 o5 o6 gf
  have hox4 := HOx4.out.below hb4 HOx4.out.lt
  obtain ⟨o0, o1, o2, o3, o4, o5, o6⟩ := hox4.cells
  have gf := hox4.frz 5
  obtain ⟨U5, hE⟩ : ∃ U, U = v5.setCell ⟨w.heap.size + 1 + 1, 5, none⟩ (.slice (some ⟨g4, 0, none⟩) im im) := ⟨_, rfl⟩
  have HE5 : Hid (U5 = v5.setCell ⟨w.heap.size + 1 + 1, 5, none⟩ (.slice (some ⟨g4, 0, none⟩) im im)) := hE
  have HOx5 : Hid (BoxW 34 U5 (w.heap.size + 1 + 1) nx (.slice (some ⟨g0, 0, none⟩) nn nn) (.slice (some ⟨g1, 0, none⟩) sn sn) (.slice (some ⟨g2, 0, none⟩) rn rn) (.slice (some ⟨g3, 0, none⟩) ln ln) (.slice (some ⟨g4, 0, none⟩) im im) (.slice none 0 0)) := by unfold Hid; rw [hE]; exact hox4.at 5 _
  have hsU : U5.heap.size = v5.heap.size := by rw [hE]; simp
  have HV4 : Hid (Below (w.heap.size + 2) W1 v5) := HU4.out.trans (hb4.mono (by have := HS1.out; omega))
  have HU5 : Hid (Below (w.heap.size + 2) W1 U5) := by unfold Hid; rw [hE]; exact HV4.out.setCell (by show w.heap.size + 2 ≤ w.heap.size + 1 + 1; omega) _
  have hsm : Same W1.heap.size v5.heap.size v5 U5 := by
    rw [hE]
    have hp := HS1.out
    exact fun b h1 _ => Below.heap_setCell v5 ⟨w.heap.size + 1 + 1, 5, none⟩ _ b (by show b ≠ w.heap.size + 1 + 1; omega)
  have HFr4 : Hid (Free W1.heap.size U5.heap.size U5) := by unfold Hid; rw [hsU, hE]; exact Free.set (Free.next (w := U4) HFr3.out hb4 hfn4) _ _
  clear hfn4
  have HG4 : Hid (RSS W1.heap.size U5.heap.size U5 (some ⟨g0, 0, none⟩) nn nn x.names ∧ RFF W1.heap.size U5.heap.size U5 (some ⟨g1, 0, none⟩) sn sn x.sets ∧ RSS W1.heap.size U5.heap.size U5 (some ⟨g2, 0, none⟩) rn rn x.roles ∧ RFF W1.heap.size U5.heap.size U5 (some ⟨g3, 0, none⟩) ln ln x.rels ∧ RSS W1.heap.size U5.heap.size U5 (some ⟨g4, 0, none⟩) im im x.inds) := by
    have hp := HS1.out
    rw [Hid, hsU]
    exact ⟨((HG3.out.1.same (Same.of_below hb4 (Nat.le_refl _))).mono (Nat.le_refl _) hb4.size).same hsm, ((HG3.out.2.1.same (Same.of_below hb4 (Nat.le_refl _))).mono (Nat.le_refl _) hb4.size).same hsm, ((HG3.out.2.2.1.same (Same.of_below hb4 (Nat.le_refl _))).mono (Nat.le_refl _) hb4.size).same hsm, ((HG3.out.2.2.2.same (Same.of_below hb4 (Nat.le_refl _))).mono (Nat.le_refl _) hb4.size).same hsm, (hrd4.mono (by omega) (Nat.le_refl _)).same hsm⟩
  clear hrd4 hb4 hox4 hE hsm hg4 z0 z1 z2 z3 z4 z5 z6
  obtain ⟨z0, z1, z2, z3, z4, z5, z6⟩ := (HLx.out _ HV4.out).cells
  have hk4 := hsU
  clear hsU
  go_wp2_with fail
  rw [← HE5.out]
  refine (toIntS_fr ta tn tc x.at' U5 (HRd.out _ HU5.out).1.at' (HRd.out _ HU5.out).2 HBd.out.t).mono ?_
  rintro e v6 ⟨rfl, hrd5, hb5, hsz5, hfn5⟩
  have hrd5 := hrd5.mono (Nat.le_refl _) (Nat.le_of_eq hsz5.symm)
  obtain ⟨g5, hg5⟩ : ∃ g, g = U5.heap.size := ⟨_, rfl⟩
  rw [← hg5] at hrd5 ⊢
  have hsb5 := hb5.size
  have hu5 := HU5.out.size
  clear o0 o1 o2 o3 o4 o5 o6 gf
  have hox5 := HOx5.out.below hb5 HOx5.out.lt
  obtain ⟨o0, o1, o2, o3, o4, o5, o6⟩ := hox5.cells
  have gf := hox5.frz 6
  obtain ⟨U6, hE⟩ : ∃ U, U = v6.setCell ⟨w.heap.size + 1 + 1, 6, none⟩ (.slice (some ⟨g5, 0, none⟩) tn tn) := ⟨_, rfl⟩
  have HE6 : Hid (U6 = v6.setCell ⟨w.heap.size + 1 + 1, 6, none⟩ (.slice (some ⟨g5, 0, none⟩) tn tn)) := hE
  have HOx6 : Hid (BoxW 34 U6 (w.heap.size + 1 + 1) nx (.slice (some ⟨g0, 0, none⟩) nn nn) (.slice (some ⟨g1, 0, none⟩) sn sn) (.slice (some ⟨g2, 0, none⟩) rn rn) (.slice (some ⟨g3, 0, none⟩) ln ln) (.slice (some ⟨g4, 0, none⟩) im im) (.slice (some ⟨g5, 0, none⟩) tn tn)) := by unfold Hid; rw [hE]; exact hox5.at 6 _
  have hsU : U6.heap.size = v6.heap.size := by rw [hE]; simp
  have HV5 : Hid (Below (w.heap.size + 2) W1 v6) := HU5.out.trans (hb5.mono (by have := HS1.out; omega))
  have HU6 : Hid (Below (w.heap.size + 2) W1 U6) := by unfold Hid; rw [hE]; exact HV5.out.setCell (by show w.heap.size + 2 ≤ w.heap.size + 1 + 1; omega) _
  have hsm : Same W1.heap.size v6.heap.size v6 U6 := by
    rw [hE]
    have hp := HS1.out
    exact fun b h1 _ => Below.heap_setCell v6 ⟨w.heap.size + 1 + 1, 6, none⟩ _ b (by show b ≠ w.heap.size + 1 + 1; omega)
  have HFr5 : Hid (Free W1.heap.size U6.heap.size U6) := by unfold Hid; rw [hsU, hE]; exact Free.set (Free.next (w := U5) HFr4.out hb5 hfn5) _ _
  clear hfn5
  have HG5 : Hid (RSS W1.heap.size U6.heap.size U6 (some ⟨g0, 0, none⟩) nn nn x.names ∧ RFF W1.heap.size U6.heap.size U6 (some ⟨g1, 0, none⟩) sn sn x.sets ∧ RSS W1.heap.size U6.heap.size U6 (some ⟨g2, 0, none⟩) rn rn x.roles ∧ RFF W1.heap.size U6.heap.size U6 (some ⟨g3, 0, none⟩) ln ln x.rels ∧ RSS W1.heap.size U6.heap.size U6 (some ⟨g4, 0, none⟩) im im x.inds ∧ RI W1.heap.size U6.heap.size U6 (some ⟨g5, 0, none⟩) tn tn x.at') := by
    have hp := HS1.out
    rw [Hid, hsU]
    exact ⟨((HG4.out.1.same (Same.of_below hb5 (Nat.le_refl _))).mono (Nat.le_refl _) hb5.size).same hsm, ((HG4.out.2.1.same (Same.of_below hb5 (Nat.le_refl _))).mono (Nat.le_refl _) hb5.size).same hsm, ((HG4.out.2.2.1.same (Same.of_below hb5 (Nat.le_refl _))).mono (Nat.le_refl _) hb5.size).same hsm, ((HG4.out.2.2.2.1.same (Same.of_below hb5 (Nat.le_refl _))).mono (Nat.le_refl _) hb5.size).same hsm, ((HG4.out.2.2.2.2.same (Same.of_below hb5 (Nat.le_refl _))).mono (Nat.le_refl _) hb5.size).same hsm, (hrd5.mono (by omega) (Nat.le_refl _)).same hsm⟩
  clear hrd5 hb5 hox5 hE hsm hg5 z0 z1 z2 z3 z4 z5 z6 hsz5
  have hrxw := HRx.out _ HV5.out
  have hrxu := HRx.out _ HU6.out
  obtain ⟨t0, t1, t2, t3, t4, t5, t6⟩ := hrxw.cells
  have tf0 := hrxw.frz 0
  have tf1 := hrxw.frz 1
  have tf2 := hrxw.frz 2
  have tf3 := hrxw.frz 3
  have tf4 := hrxw.frz 4
  have tf5 := hrxw.frz 5
  have tf6 := hrxw.frz 6
  obtain ⟨s0, s1, s2, s3, s4, s5, s6⟩ := (hrxu.set7 nx (.slice (some ⟨g0, 0, none⟩) nn nn) (.slice (some ⟨g1, 0, none⟩) sn sn) (.slice (some ⟨g2, 0, none⟩) rn rn) (.slice (some ⟨g3, 0, none⟩) ln ln) (.slice (some ⟨g4, 0, none⟩) im im) (.slice (some ⟨g5, 0, none⟩) tn tn)).cells
  have HPost : Hid (RdW w.heap.size (set7 U6 (w.heap.size + 1) (.int .i64 nx) (.slice (some ⟨g0, 0, none⟩) nn nn) (.slice (some ⟨g1, 0, none⟩) sn sn) (.slice (some ⟨g2, 0, none⟩) rn rn) (.slice (some ⟨g3, 0, none⟩) ln ln) (.slice (some ⟨g4, 0, none⟩) im im) (.slice (some ⟨g5, 0, none⟩) tn tn)).heap.size (set7 U6 (w.heap.size + 1) (.int .i64 nx) (.slice (some ⟨g0, 0, none⟩) nn nn) (.slice (some ⟨g1, 0, none⟩) sn sn) (.slice (some ⟨g2, 0, none⟩) rn rn) (.slice (some ⟨g3, 0, none⟩) ln ln) (.slice (some ⟨g4, 0, none⟩) im im) (.slice (some ⟨g5, 0, none⟩) tn tn)) (some ⟨g0, 0, none⟩) nn nn (some ⟨g1, 0, none⟩) sn sn (some ⟨g2, 0, none⟩) rn rn (some ⟨g3, 0, none⟩) ln ln (some ⟨g4, 0, none⟩) im im (some ⟨g5, 0, none⟩) tn tn x ∧ Below w.heap.size w (set7 U6 (w.heap.size + 1) (.int .i64 nx) (.slice (some ⟨g0, 0, none⟩) nn nn) (.slice (some ⟨g1, 0, none⟩) sn sn) (.slice (some ⟨g2, 0, none⟩) rn rn) (.slice (some ⟨g3, 0, none⟩) ln ln) (.slice (some ⟨g4, 0, none⟩) im im) (.slice (some ⟨g5, 0, none⟩) tn tn))) := by
    have hp := HS1.out
    have hsf := size_set7 U6 (w.heap.size + 1) (.int .i64 nx) (.slice (some ⟨g0, 0, none⟩) nn nn) (.slice (some ⟨g1, 0, none⟩) sn sn) (.slice (some ⟨g2, 0, none⟩) rn rn) (.slice (some ⟨g3, 0, none⟩) ln ln) (.slice (some ⟨g4, 0, none⟩) im im) (.slice (some ⟨g5, 0, none⟩) tn tn)
    have hSm : Same W1.heap.size U6.heap.size U6 (set7 U6 (w.heap.size + 1) (.int .i64 nx) (.slice (some ⟨g0, 0, none⟩) nn nn) (.slice (some ⟨g1, 0, none⟩) sn sn) (.slice (some ⟨g2, 0, none⟩) rn rn) (.slice (some ⟨g3, 0, none⟩) ln ln) (.slice (some ⟨g4, 0, none⟩) im im) (.slice (some ⟨g5, 0, none⟩) tn tn)) := fun b h1 h2 => heap_set7 _ _ _ _ _ _ _ _ (by omega)
    have hG := HG5.out
    rw [Hid, hsf]
    exact ⟨⟨(hG.1.same hSm).mono (by omega) (Nat.le_refl _), (hG.2.1.same hSm).mono (by omega) (Nat.le_refl _), (hG.2.2.1.same hSm).mono (by omega) (Nat.le_refl _), (hG.2.2.2.1.same hSm).mono (by omega) (Nat.le_refl _), (hG.2.2.2.2.1.same hSm).mono (by omega) (Nat.le_refl _), (hG.2.2.2.2.2.same hSm).mono (by omega) (Nat.le_refl _)⟩, below_set7 (HB0.out.trans (HU6.out.mono (by omega))) (by omega) _ _ _ _ _ _ _⟩
  have HPf : Hid (Free w.heap.size (set7 U6 (w.heap.size + 1) (.int .i64 nx) (.slice (some ⟨g0, 0, none⟩) nn nn) (.slice (some ⟨g1, 0, none⟩) sn sn) (.slice (some ⟨g2, 0, none⟩) rn rn) (.slice (some ⟨g3, 0, none⟩) ln ln) (.slice (some ⟨g4, 0, none⟩) im im) (.slice (some ⟨g5, 0, none⟩) tn tn)).heap.size (set7 U6 (w.heap.size + 1) (.int .i64 nx) (.slice (some ⟨g0, 0, none⟩) nn nn) (.slice (some ⟨g1, 0, none⟩) sn sn) (.slice (some ⟨g2, 0, none⟩) rn rn) (.slice (some ⟨g3, 0, none⟩) ln ln) (.slice (some ⟨g4, 0, none⟩) im im) (.slice (some ⟨g5, 0, none⟩) tn tn))) := by
    have hp := HS1.out
    have hf0 : Free w.heap.size U6.heap.size U6 := fun b h1 h2 o => by
      by_cases e0 : b = w.heap.size
      · subst e0; exact (HLx.out _ HU6.out).frz o
      · by_cases e1 : b = w.heap.size + 1
        · subst e1; exact hrxu.frz o
        · by_cases e2 : b = w.heap.size + 1 + 1
          · subst e2; exact HOx6.out.frz o
          · exact HFr5.out b (by omega) h2 o
    rw [Hid, size_set7]
    unfold set7
    exact ((((((hf0.set _ _).set _ _).set _ _).set _ _).set _ _).set _ _).set _ _
  rw [HE6.out] at HPf HPost s0 s1 s2 s3 s4 s5 s6
  simp only [set7] at s0 s1 s2 s3 s4 s5 s6 HPost HPf
  clear hrxw hrxu
  go_wp2_with fail
  refine bodyPost_ret (v := .agg #[.int .i64 nx, .slice (some ⟨g0, 0, none⟩) nn nn, .slice (some ⟨g1, 0, none⟩) sn sn, .slice (some ⟨g2, 0, none⟩) rn rn, .slice (some ⟨g3, 0, none⟩) ln ln, .slice (some ⟨g4, 0, none⟩) im im, .slice (some ⟨g5, 0, none⟩) tn tn]) (by simp [results, Try.results8, go_sem, s0, s1, s2, s3, s4, s5, s6]) rfl ?_
  exact ⟨_, _, _, _, _, _, rfl, HPost.out.1, HPost.out.2, HPf.out⟩
end

section
open Go.RowKit Go.Deep
set_option linter.unusedVariables false

def holdsB (x : WD) (c : CN) (z : Int) : Bool := worldB x && (conOk c && (hasB x.n z && holdC x x.n.toNat c z.toNat))
end

section
open Go.RowKit Go.Deep
set_option linter.unusedVariables false

theorem info3i : (Try.prog.info? 3).map (fun i => (i.zero, i.size, i.bytes)) = some (some (.int .i64 0), 1, 8) := by kernel_rfl

def extL (x : WD) (c : CN) : List Int := if worldB x && conOk c then pickI (fun j => holdC x x.n.toNat c j) x.n.toNat else []

theorem OwnI.mono {base base' : Nat} {w : World} {v : Value} {zs : List Int} (h : OwnI base w v zs) (hb : base' ≤ base) : OwnI base' w v zs := by
  obtain ⟨h1, h2⟩ := h
  refine ⟨h1, ?_⟩
  rcases h2 with h2 | ⟨g, cap, cur, hv, hg, hh, r⟩
  · exact .inl h2
  · exact .inr ⟨g, cap, cur, hv, by omega, hh, r⟩

set_option maxRecDepth 100000 in
set_option maxHeartbeats 8000000 in
theorem specExt_any {na : Option Addr} {nn nc : Nat} {sa : Option Addr} {sn sc : Nat} {ra : Option Addr} {rn rc : Nat} {la : Option Addr} {ln lc : Nat} {ia : Option Addr} {im ic : Nat} {ta : Option Addr} {tn tc : Nat} {x : WD} {d : Nat} {v : Value} {c : CN} {w : World} {lo hi lo' hi' : Nat} {nx : Int} (h : RdW lo hi w na nn nc sa sn sc ra rn rc la ln lc ia im ic ta tn tc x) (hc : RdC lo' hi' w d v c) (hn : x.n = nx) (hhi : hi ≤ w.heap.size) (hhi' : hi' ≤ w.heap.size) :
    Calls Try.prog 7 #[.agg #[.int .i64 nx, .slice na nn nc, .slice sa sn sc, .slice ra rn rc, .slice la ln lc, .slice ia im ic, .slice ta tn tc], v] w fun r w' => ∃ u, r = .returned u ∧ OwnI w.heap.size w' u (extL x c) ∧ Below w.heap.size w w' := by
  obtain ⟨k, cna, cnn, cnc, cra, crn, crc, cka, ckn, ckc, rfl⟩ := hc.shape
  obtain ⟨W0, hW0⟩ : ∃ W0, W0 = (w.alloc (.cells #[.int .i64 nx, .slice na nn nc, .slice sa sn sc, .slice ra rn rc, .slice la ln lc, .slice ia im ic, .slice ta tn tc] 34)).alloc (.cells #[.int .i64 k, .slice cna cnn cnc, .slice cra crn crc, .slice cka ckn ckc] 38) := ⟨_, rfl⟩
  have HW0 : Hid (W0 = (w.alloc (.cells #[.int .i64 nx, .slice na nn nc, .slice sa sn sc, .slice ra rn rc, .slice la ln lc, .slice ia im ic, .slice ta tn tc] 34)).alloc (.cells #[.int .i64 k, .slice cna cnn cnc, .slice cra crn crc, .slice cka ckn ckc] 38)) := hW0
  have hs0 : W0.heap.size = w.heap.size + 2 := by rw [hW0]; simp
  have hb0 : Below w.heap.size w W0 := by rw [hW0]; exact ((Below.refl _ _).alloc (Nat.le_refl _) _).alloc (by simp) _
  have hbx : BoxW 34 W0 w.heap.size nx (.slice na nn nc) (.slice sa sn sc) (.slice ra rn rc) (.slice la ln lc) (.slice ia im ic) (.slice ta tn tc) := by rw [hW0]; exact (BoxW.new _ w _ _ _ _ _ _ _).below ((Below.refl _ _).alloc (Nat.le_refl _) _) (by simp)
  have hby : BoxC W0 (w.heap.size + 1) (.int .i64 k) (.slice cna cnn cnc) (.slice cra crn crc) (.slice cka ckn ckc) := by
    rw [hW0]
    have := BoxC.new (w.alloc (.cells #[.int .i64 nx, .slice na nn nc, .slice sa sn sc, .slice ra rn rc, .slice la ln lc, .slice ia im ic, .slice ta tn tc] 34)) (.int .i64 k) (.slice cna cnn cnc) (.slice cra crn crc) (.slice cka ckn ckc)
    rwa [World.size_alloc] at this
  have HB0 : Hid (Below w.heap.size w W0) := hb0
  have HBd : Hid (∀ {V : World}, Below W0.heap.size W0 V → Below w.heap.size w V) := fun {V} hV => hb0.trans (hV.mono (by omega))
  have HRd : Hid (∀ V, Below W0.heap.size W0 V → RdW lo hi V na nn nc sa sn sc ra rn rc la ln lc ia im ic ta tn tc x ∧ hi ≤ V.heap.size ∧ RdC lo' hi' V d (.agg #[.int .i64 k, .slice cna cnn cnc, .slice cra crn crc, .slice cka ckn ckc]) c ∧ hi' ≤ V.heap.size) := fun V hV => ⟨(h.below hb0 hhi).below hV (by omega), by have := hV.size; omega, (hc.below hb0 hhi').below hV (by omega), by have := hV.size; omega⟩
  have HCl : Hid (∀ V, Below W0.heap.size W0 V → (V.cell? ⟨w.heap.size, 0, none⟩ = some (.int .i64 nx) ∧ V.cell? ⟨w.heap.size, 1, none⟩ = some (.slice na nn nc) ∧ V.cell? ⟨w.heap.size, 2, none⟩ = some (.slice sa sn sc) ∧ V.cell? ⟨w.heap.size, 3, none⟩ = some (.slice ra rn rc) ∧ V.cell? ⟨w.heap.size, 4, none⟩ = some (.slice la ln lc) ∧ V.cell? ⟨w.heap.size, 5, none⟩ = some (.slice ia im ic) ∧ V.cell? ⟨w.heap.size, 6, none⟩ = some (.slice ta tn tc)) ∧ (V.cell? ⟨w.heap.size + 1, 0, none⟩ = some (.int .i64 k) ∧ V.cell? ⟨w.heap.size + 1, 1, none⟩ = some (.slice cna cnn cnc) ∧ V.cell? ⟨w.heap.size + 1, 2, none⟩ = some (.slice cra crn crc) ∧ V.cell? ⟨w.heap.size + 1, 3, none⟩ = some (.slice cka ckn ckc))) := fun V hV => ⟨(hbx.below hV (by omega)).cells, (hby.below hV (by omega)).cells⟩
  have HN : Hid (x.n = nx) := hn
  obtain ⟨⟨z0, z1, z2, z3, z4, z5, z6⟩, y0, y1, y2, y3⟩ := HCl.out W0 (Below.refl _ _)
  clear h hc hn hb0 hbx hby hW0 hs0
  have HS0 : Hid (w.heap.size ≤ W0.heap.size) := HB0.out.size
  go_enter Try.func7, Try.ntmps7
  go_upto_region 1 with fail
  rw [← HW0.out]
  go_wp2_with fail
  refine (specWorldOk_any (HRd.out _ (Below.refl _ _)).1 HN.out (HRd.out _ (Below.refl _ _)).2.1).mono ?_
  rintro r w1 ⟨rfl, hb1⟩
  have H1 : Hid (Below W0.heap.size W0 w1) := hb1
  clear hb1
  clear z0 z1 z2 z3 z4 z5 z6 y0 y1 y2 y3
  obtain ⟨⟨z0, z1, z2, z3, z4, z5, z6⟩, y0, y1, y2, y3⟩ := HCl.out w1 H1.out
  cases hok : worldB x
  · have HG : Hid (extL x c = []) := by unfold Hid extL; rw [hok]; rfl
    go_wp2_with fail
    go_ret
    exact ⟨_, rfl, by rw [HG.out]; exact OwnI.nil _ _, HBd.out H1.out⟩
  · go_wp2_with fail
    refine (specConOk_any (HRd.out w1 H1.out).2.2.1 (HRd.out w1 H1.out).2.2.2).mono ?_
    rintro r w2 ⟨rfl, hb2⟩
    have H2 : Hid (Below W0.heap.size W0 w2) := H1.out.trans (hb2.mono H1.out.size)
    clear hb2
    clear z0 z1 z2 z3 z4 z5 z6 y0 y1 y2 y3
    obtain ⟨⟨z0, z1, z2, z3, z4, z5, z6⟩, y0, y1, y2, y3⟩ := HCl.out w2 H2.out
    cases hck : conOk c
    · have HG : Hid (extL x c = []) := by unfold Hid extL; rw [hok, hck]; rfl
      go_wp2_with fail
      go_ret
      exact ⟨_, rfl, by rw [HG.out]; exact OwnI.nil _ _, HBd.out H2.out⟩
    · have hn1 : 1 ≤ nx ∧ nx ≤ 128 := by have h1 := ((worldB_iff x).1 hok).1.1; rw [HN.out] at h1; omega
      obtain ⟨L, HLn⟩ : ∃ L : Nat, Hid (nx = (L : Int)) := ⟨nx.toNat, by unfold Hid; omega⟩
      have hnl : nx = (L : Int) := HLn.out
      subst hnl
      have hL128 : 1 ≤ L ∧ L ≤ 128 := by omega
      have HG : Hid (extL x c = pickI (fun j => holdC x L c j) L) := by unfold Hid extL; rw [hok, hck, HN.out]; simp
      have HWf : Hid (wfC c = true) := wfC_of_ok hck
      have HOk : Hid (worldB x = true) := hok
      clear HLn hok hck hn1
      obtain ⟨i0, hi0, hz0, hz1, hz2⟩ := info_parts info3i
      go_wp2_with fail
      go_loopw [5, 6] (fun v i wr => ∃ k : Nat, k ≤ L ∧ i = .int .i64 k ∧ OwnI W0.heap.size wr v (pickI (fun j => holdC x L c j) k) ∧ Below W0.heap.size W0 wr) (fun _ i _ => L - (intOf i).toNat)
      case atStart => exact ⟨0, Nat.zero_le _, rfl, OwnI.nil _ _, H2.out⟩
      case round =>
        obtain ⟨k, hk, rfl, hown, hbel⟩ := hrel
        have HO : Hid (OwnI W0.heap.size wr u5 (pickI (fun j => holdC x L c j) k)) := hown
        have HB : Hid (Below W0.heap.size W0 wr) := hbel
        clear hown hbel
        clear z0 z1 z2 z3 z4 z5 z6 y0 y1 y2 y3
        obtain ⟨⟨z0, z1, z2, z3, z4, z5, z6⟩, y0, y1, y2, y3⟩ := HCl.out wr HB.out
        by_cases hlt : k < L
        · have hki : (k : Int) < (L : Int) := by omega
          go_wp2_with fail
          refine (hoP_any HOk.out HN.out hL128.2 d _ c k wr lo' hi' (HRd.out wr HB.out).1 (HRd.out wr HB.out).2.2.1 (HRd.out wr HB.out).2.1 (HRd.out wr HB.out).2.2.2 HWf.out hlt).mono ?_
          rintro r w4 ⟨rfl, hb4⟩
          have HO4 : Hid (OwnI W0.heap.size w4 u5 (pickI (fun j => holdC x L c j) k)) := HO.out.below hb4 (Nat.le_refl _)
          have H4 : Hid (Below W0.heap.size W0 w4) := HB.out.trans (hb4.mono HB.out.size)
          clear hb4
          clear z0 z1 z2 z3 z4 z5 z6 y0 y1 y2 y3
          obtain ⟨⟨z0, z1, z2, z3, z4, z5, z6⟩, y0, y1, y2, y3⟩ := HCl.out w4 H4.out
          cases hh : holdC x L c k
          · have HP : Hid (pickI (fun j => holdC x L c j) (k + 1) = (pickI (fun j => holdC x L c j) k)) := pickI_no hh
            go_wp2_with fail
            go_roundw
            case rel => exact ⟨k + 1, by omega, by go_num, by rw [HP.out]; exact HO4.out, H4.out⟩
            case measure => simp [intOf]; omega
          · have HP : Hid (pickI (fun j => holdC x L c j) (k + 1) = (pickI (fun j => holdC x L c j) k) ++ [(k : Int)]) := pickI_yes hh
            have hlen := pickI_len (fun j => holdC x L c j) k
            have HOA : Hid (OwnI W0.heap.size (w4.alloc (.cells #[.int .i64 (k : Int)] 3)) u5 (pickI (fun j => holdC x L c j) k)) := HO4.out.below ((Below.refl _ _).alloc (Nat.le_refl _) _) (Nat.le_refl _)
            have HBA : Hid (Below W0.heap.size W0 (w4.alloc (.cells #[.int .i64 (k : Int)] 3))) := H4.out.alloc H4.out.size _
            go_wp2_with (at_builtin; refine wpList_append_own _ rfl (.tmp 25) (.tmp 27) 24 rfl W0.heap.size 3 i0 (.int .i64 0) 1 8 Try.underlying24 hi0 hz0 hz1 hz2 rfl (by decide) u5 (pickI (fun j => holdC x L c j) k).length ((pickI (fun j => holdC x L c j) k).map (Value.int .i64)) rfl HOA.out ⟨w4.heap.size, 0, none⟩ 1 1 ([(k : Int)].map (Value.int .i64)) rfl rfl (newI1 _ _ _ rfl) (oneCI _) (by unfold maxLen; omega) (by omega) HBA.out.size ?_; intro v' w5 hown' hgrow hnil; have HF : Hid (OwnI W0.heap.size w5 v' ((pickI (fun j => holdC x L c j) k) ++ [(k : Int)]) ∧ Below W0.heap.size W0 w5) := ownI_step HOA.out HBA.out hown' hgrow; clear hown' hgrow hnil z0 z1 z2 z3 z4 z5 z6 y0 y1 y2 y3)
            go_roundw
            case rel => exact ⟨k + 1, by omega, by go_num, by rw [HP.out]; exact HF.out.1, HF.out.2⟩
            case measure => simp [intOf]; omega
        · have hkn : k = L := by omega
          subst hkn
          go_wp2_with fail
          go_ret
          exact ⟨_, rfl, by rw [HG.out]; exact HO.out.mono HS0.out, HBd.out HB.out⟩
end

section
open Go.RowKit Go.Deep
set_option linter.unusedVariables false

set_option maxRecDepth 100000 in
set_option maxHeartbeats 8000000 in
theorem implExt_any {na : Option Addr} {nn nc : Nat} {sa : Option Addr} {sn sc : Nat} {ra : Option Addr} {rn rc : Nat} {la : Option Addr} {ln lc : Nat} {ia : Option Addr} {im ic : Nat} {ta : Option Addr} {tn tc : Nat} {x : WD} {d : Nat} {v : Value} {c : CN} {w : World} {lo hi lo' hi' : Nat} {nx : Int} (h : RdW lo hi w na nn nc sa sn sc ra rn rc la ln lc ia im ic ta tn tc x) (hc : RdC lo' hi' w d v c) (hn : x.n = nx) (hhi : hi ≤ w.heap.size) (hhi' : hi' ≤ w.heap.size) (hbk : c.bulk ≤ 1048576) :
    Calls Try.prog 10 #[.agg #[.int .i64 nx, .slice na nn nc, .slice sa sn sc, .slice ra rn rc, .slice la ln lc, .slice ia im ic, .slice ta tn tc], v] w fun r w' => ∃ u, r = .returned u ∧ OwnI w.heap.size w' u (extL x c) ∧ Below w.heap.size w w' := by
  obtain ⟨k, cna, cnn, cnc, cra, crn, crc, cka, ckn, ckc, rfl⟩ := hc.shape
  obtain ⟨W0, hW0⟩ : ∃ W0, W0 = (w.alloc (.cells #[.int .i64 nx, .slice na nn nc, .slice sa sn sc, .slice ra rn rc, .slice la ln lc, .slice ia im ic, .slice ta tn tc] 34)).alloc (.cells #[.int .i64 k, .slice cna cnn cnc, .slice cra crn crc, .slice cka ckn ckc] 38) := ⟨_, rfl⟩
  have HW0 : Hid (W0 = (w.alloc (.cells #[.int .i64 nx, .slice na nn nc, .slice sa sn sc, .slice ra rn rc, .slice la ln lc, .slice ia im ic, .slice ta tn tc] 34)).alloc (.cells #[.int .i64 k, .slice cna cnn cnc, .slice cra crn crc, .slice cka ckn ckc] 38)) := hW0
  have hs0 : W0.heap.size = w.heap.size + 2 := by rw [hW0]; simp
  have hb0 : Below w.heap.size w W0 := by rw [hW0]; exact ((Below.refl _ _).alloc (Nat.le_refl _) _).alloc (by simp) _
  have hbx : BoxW 34 W0 w.heap.size nx (.slice na nn nc) (.slice sa sn sc) (.slice ra rn rc) (.slice la ln lc) (.slice ia im ic) (.slice ta tn tc) := by rw [hW0]; exact (BoxW.new _ w _ _ _ _ _ _ _).below ((Below.refl _ _).alloc (Nat.le_refl _) _) (by simp)
  have hby : BoxC W0 (w.heap.size + 1) (.int .i64 k) (.slice cna cnn cnc) (.slice cra crn crc) (.slice cka ckn ckc) := by
    rw [hW0]
    have := BoxC.new (w.alloc (.cells #[.int .i64 nx, .slice na nn nc, .slice sa sn sc, .slice ra rn rc, .slice la ln lc, .slice ia im ic, .slice ta tn tc] 34)) (.int .i64 k) (.slice cna cnn cnc) (.slice cra crn crc) (.slice cka ckn ckc)
    rwa [World.size_alloc] at this
  have HB0 : Hid (Below w.heap.size w W0) := hb0
  have HBd : Hid (∀ {V : World}, Below W0.heap.size W0 V → Below w.heap.size w V) := fun {V} hV => hb0.trans (hV.mono (by omega))
  have HRd : Hid (∀ V, Below W0.heap.size W0 V → RdW lo hi V na nn nc sa sn sc ra rn rc la ln lc ia im ic ta tn tc x ∧ hi ≤ V.heap.size ∧ RdC lo' hi' V d (.agg #[.int .i64 k, .slice cna cnn cnc, .slice cra crn crc, .slice cka ckn ckc]) c ∧ hi' ≤ V.heap.size) := fun V hV => ⟨(h.below hb0 hhi).below hV (by omega), by have := hV.size; omega, (hc.below hb0 hhi').below hV (by omega), by have := hV.size; omega⟩
  have HCl : Hid (∀ V, Below W0.heap.size W0 V → (V.cell? ⟨w.heap.size, 0, none⟩ = some (.int .i64 nx) ∧ V.cell? ⟨w.heap.size, 1, none⟩ = some (.slice na nn nc) ∧ V.cell? ⟨w.heap.size, 2, none⟩ = some (.slice sa sn sc) ∧ V.cell? ⟨w.heap.size, 3, none⟩ = some (.slice ra rn rc) ∧ V.cell? ⟨w.heap.size, 4, none⟩ = some (.slice la ln lc) ∧ V.cell? ⟨w.heap.size, 5, none⟩ = some (.slice ia im ic) ∧ V.cell? ⟨w.heap.size, 6, none⟩ = some (.slice ta tn tc)) ∧ (V.cell? ⟨w.heap.size + 1, 0, none⟩ = some (.int .i64 k) ∧ V.cell? ⟨w.heap.size + 1, 1, none⟩ = some (.slice cna cnn cnc) ∧ V.cell? ⟨w.heap.size + 1, 2, none⟩ = some (.slice cra crn crc) ∧ V.cell? ⟨w.heap.size + 1, 3, none⟩ = some (.slice cka ckn ckc))) := fun V hV => ⟨(hbx.below hV (by omega)).cells, (hby.below hV (by omega)).cells⟩
  have HN : Hid (x.n = nx) := hn
  obtain ⟨⟨z0, z1, z2, z3, z4, z5, z6⟩, y0, y1, y2, y3⟩ := HCl.out W0 (Below.refl _ _)
  have HBk : Hid (c.bulk ≤ 1048576) := hbk
  clear h hc hn hb0 hbx hW0 hbk
  go_enter Try.func10, Try.ntmps10
  go_upto_region 1 with fail
  rw [← HW0.out]
  go_wp2_with fail
  refine (sceneOf_any (HRd.out _ (Below.refl _ _)).1 HN.out (HRd.out _ (Below.refl _ _)).2.1).mono ?_
  rintro e wA ⟨rfl, hA⟩
  have HwA : Hid (Below W0.heap.size W0 wA) := hA
  have hsA := hA.size
  have hl1 : w.heap.size + 1 < wA.heap.size := by omega
  clear hA hs0
  clear z0 z1 z2 z3 z4 z5 z6 y0 y1 y2 y3
  obtain ⟨⟨z0, z1, z2, z3, z4, z5, z6⟩, y0, y1, y2, y3⟩ := HCl.out wA HwA.out
  cases hok : worldB x
  · have HG : Hid (extL x c = []) := by unfold Hid extL; rw [hok]; rfl
    rw [show ∀ u v, whichV false u v = v from fun _ _ => rfl]
    obtain ⟨U, hU⟩ : ∃ U, U = wA.alloc (.cells #[.int .i64 0, .slice none 0 0, .slice none 0 0, .int .i64 0, .slice none 0 0, .slice none 0 0, .slice none 0 0, .slice none 0 0, .slice none 0 0, .slice none 0 0] 66) := ⟨_, rfl⟩
    have HU : Hid (U = wA.alloc (.cells #[.int .i64 0, .slice none 0 0, .slice none 0 0, .int .i64 0, .slice none 0 0, .slice none 0 0, .slice none 0 0, .slice none 0 0, .slice none 0 0, .slice none 0 0] 66)) := hU
    have HB1 : Hid (Below w.heap.size w U) := by unfold Hid; rw [hU]; exact HBd.out (HwA.out.alloc HwA.out.size _)
    clear hok hU
    go_upto_region 2 with fail
    rw [← HU.out]
    go_wp2_with fail
    go_ret
    exact ⟨_, rfl, by rw [HG.out]; exact OwnI.nil _ _, HB1.out⟩
  · rw [show ∀ u v, whichV true u v = u from fun _ _ => rfl]
    obtain ⟨U, hU⟩ : ∃ U, U = wA.alloc (.cells #[.int .i64 nx, .slice ia im ic, .slice ta tn tc, .int .i64 nx, .slice na nn nc, .slice sa sn sc, .slice ra rn rc, .slice la ln lc, .slice ia im ic, .slice ta tn tc] 66) := ⟨_, rfl⟩
    have HU : Hid (U = wA.alloc (.cells #[.int .i64 nx, .slice ia im ic, .slice ta tn tc, .int .i64 nx, .slice na nn nc, .slice sa sn sc, .slice ra rn rc, .slice la ln lc, .slice ia im ic, .slice ta tn tc] 66)) := hU
    have hbs : BoxS U wA.heap.size (.int .i64 nx) (.slice ia im ic) (.slice ta tn tc) (.int .i64 nx) (.slice na nn nc) (.slice sa sn sc) (.slice ra rn rc) (.slice la ln lc) (.slice ia im ic) (.slice ta tn tc) := by rw [hU]; exact BoxS.new wA _ _ _ _ _ _ _ _ _ _
    have HwU : Hid (Below W0.heap.size W0 U) := by unfold Hid; rw [hU]; exact HwA.out.alloc HwA.out.size _
    have HBU : Hid (∀ {V : World}, Below U.heap.size U V → Below w.heap.size w V) := fun {V} hV => HBd.out (HwU.out.trans (hV.mono HwU.out.size))
    have HSc : Hid (∀ V, Below U.heap.size U V → (V.cell? ⟨wA.heap.size, 0, none⟩ = some (.int .i64 nx) ∧ V.cell? ⟨wA.heap.size, 1, none⟩ = some (.slice ia im ic) ∧ V.cell? ⟨wA.heap.size, 2, none⟩ = some (.slice ta tn tc) ∧ V.cell? ⟨wA.heap.size, 3, none⟩ = some (.int .i64 nx) ∧ V.cell? ⟨wA.heap.size, 4, none⟩ = some (.slice na nn nc) ∧ V.cell? ⟨wA.heap.size, 5, none⟩ = some (.slice sa sn sc) ∧ V.cell? ⟨wA.heap.size, 6, none⟩ = some (.slice ra rn rc) ∧ V.cell? ⟨wA.heap.size, 7, none⟩ = some (.slice la ln lc) ∧ V.cell? ⟨wA.heap.size, 8, none⟩ = some (.slice ia im ic) ∧ V.cell? ⟨wA.heap.size, 9, none⟩ = some (.slice ta tn tc)) ∧ (V.cell? ⟨w.heap.size + 1, 0, none⟩ = some (.int .i64 k) ∧ V.cell? ⟨w.heap.size + 1, 1, none⟩ = some (.slice cna cnn cnc) ∧ V.cell? ⟨w.heap.size + 1, 2, none⟩ = some (.slice cra crn crc) ∧ V.cell? ⟨w.heap.size + 1, 3, none⟩ = some (.slice cka ckn ckc))) := fun V hV => ⟨(hbs.below hV hbs.lt).cells, (HCl.out V (HwU.out.trans (hV.mono HwU.out.size))).2⟩
    have HRU : Hid (∀ V, Below U.heap.size U V → RdW lo hi V na nn nc sa sn sc ra rn rc la ln lc ia im ic ta tn tc x ∧ hi ≤ V.heap.size ∧ RdC lo' hi' V d (.agg #[.int .i64 k, .slice cna cnn cnc, .slice cra crn crc, .slice cka ckn ckc]) c ∧ hi' ≤ V.heap.size) := fun V hV => HRd.out V (HwU.out.trans (hV.mono HwU.out.size))
    have HZU : Hid (Below U.heap.size U U.drew) := (Below.refl _ _).drew
    have HOk : Hid (worldB x = true) := hok
    clear z0 z1 z2 z3 z4 z5 z6 y0 y1 y2 y3
    obtain ⟨⟨m0, m1, m2, m3, m4, m5, m6, m7, m8, m9⟩, y0, y1, y2, y3⟩ := HSc.out U (Below.refl _ _)
    clear hU hbs
    go_upto_region 2 with fail
    rw [← HU.out]
    go_wp2_with fail
    refine (implConOk_any (HRU.out _ (Below.refl _ _)).2.2.1 (HRU.out _ (Below.refl _ _)).2.2.2 HBk.out).mono ?_
    rintro e wB ⟨rfl, hq⟩
    have HwB : Hid (Below U.heap.size U wB) := hq
    have HwBd : Hid (Below U.heap.size U wB.drew) := hq.drew
    clear hq
    clear m0 m1 m2 m3 m4 m5 m6 m7 m8 m9 y0 y1 y2 y3; obtain ⟨⟨m0, m1, m2, m3, m4, m5, m6, m7, m8, m9⟩, y0, y1, y2, y3⟩ := HSc.out wB HwB.out
    cases hck : conOk c
    · have HG : Hid (extL x c = []) := by unfold Hid extL; rw [hok, hck]; rfl
      clear hok
      go_wp2_with fail
      go_ret
      exact ⟨_, rfl, by rw [HG.out]; exact OwnI.nil _ _, HBU.out HwB.out⟩
    · have hn1 : 1 ≤ nx ∧ nx ≤ 128 := by have h1 := ((worldB_iff x).1 hok).1.1; rw [HN.out] at h1; omega
      obtain ⟨L, HLn⟩ : ∃ L : Nat, Hid (nx = (L : Int)) := ⟨nx.toNat, by unfold Hid; omega⟩
      have hnl : nx = (L : Int) := HLn.out
      subst hnl
      have hL128 : 1 ≤ L ∧ L ≤ 128 := by omega
      have HG : Hid (extL x c = pickI (fun j => holdC x L c j) L) := by unfold Hid extL; rw [hok, hck, HN.out]; simp
      have HWf : Hid (wfC c = true) := wfC_of_ok hck
      clear HLn hok hck hn1
      obtain ⟨i0, hi0, hq0, hq1, hq2⟩ := info_parts info3i
      go_upto_region 5 with fail
      go_cut [25, 26, 27] (fun v2 v3 v4 W => ∃ fb fo fc, v2 = .slice (some ⟨fb, fo, none⟩) L fc ∧ v3 = .int .i64 L ∧ v4 = .int .i64 0 ∧ L ≤ fc ∧ FlS W fb fo L (holdC x L c) ∧ Below U.heap.size U W)
      case first =>
        first | go_region_with (first
          | (go_at_call 39; refine (claimOf_any d _ c wB.drew lo' hi' (HRU.out wB.drew HwBd.out).2.2.1 (HRU.out wB.drew HwBd.out).2.2.2 HWf.out).mono ?_; rintro e wD ⟨vq, rfl, hq, hbD⟩; obtain ⟨qt, qz, rfl⟩ := hq.iface; have HQD : Hid (RdQ (fun b => b < wD.heap.size) lo' hi' wD d (.iface qt qz) c) := hq.keep (fun b hb => ⟨hb.2, rfl⟩) (fun _ _ _ => rfl); have HwD : Hid (Below U.heap.size U wD) := HwBd.out.trans (hbD.mono HwBd.out.size); clear hq hbD; clear m0 m1 m2 m3 m4 m5 m6 m7 m8 m9 y0 y1 y2 y3; obtain ⟨⟨m0, m1, m2, m3, m4, m5, m6, m7, m8, m9⟩, y0, y1, y2, y3⟩ := HSc.out wD HwD.out)
          | (go_at_call 38; refine (hqP_any HOk.out HN.out hL128 d _ c wD wD.heap.size lo' hi' HQD.out (Nat.le_refl _) (HRU.out wD HwD.out).2.2.2 (HRU.out wD HwD.out).1 (HRU.out wD HwD.out).2.1 HWf.out).mono ?_; rintro e wE ⟨fb, fo, fc, rfl, hfc, hfl, hbE⟩; have HwE : Hid (Below U.heap.size U wE) := HwD.out.trans (hbE.mono HwD.out.size); have HFl : Hid (FlS wE fb fo L (holdC x L c)) := hfl; have hcc := hfc.1; clear hfc hfl hbE; clear m0 m1 m2 m3 m4 m5 m6 m7 m8 m9 y0 y1 y2 y3; obtain ⟨⟨m0, m1, m2, m3, m4, m5, m6, m7, m8, m9⟩, y0, y1, y2, y3⟩ := HSc.out wE HwE.out)) | fail
        all_goals
          go_wp2_with fail
          go_meet
          case rel => exact ⟨fb, fo, fc, rfl, by go_num, by go_num, hcc.1, HFl.out, HwE.out⟩
      case rest =>
        obtain ⟨fb, fo, fc, h25, h26, h27, hcc, hfl, hwc⟩ := hcut
        subst h25
        subst h26
        subst h27
        obtain ⟨wE, hwE⟩ : ∃ V, V = wc := ⟨_, rfl⟩
        rw [← hwE] at hfl hwc ⊢
        clear hwE
        have HFl : Hid (∀ V, Below wE.heap.size wE V → FlS V fb fo L (holdC x L c)) := fun V hV => hfl.below hV
        have HwE : Hid (Below U.heap.size U wE) := hwc
        have HBE : Hid (∀ {V : World}, Below wE.heap.size wE V → Below w.heap.size w V) := fun {V} hV => HBU.out (HwE.out.trans (hV.mono HwE.out.size))
        have HSE : Hid (w.heap.size ≤ wE.heap.size) := (HBU.out hwc).size
        clear hfl hwc m0 m1 m2 m3 m4 m5 m6 m7 m8 m9 y0 y1 y2 y3
        go_wp2_with fail
        go_loopw [7, 27] (fun v i wr => ∃ k : Nat, k ≤ L ∧ i = .int .i64 k ∧ OwnI wE.heap.size wr v (pickI (fun j => holdC x L c j) k) ∧ Below wE.heap.size wE wr) (fun _ i _ => L - (intOf i).toNat)
        case atStart => exact ⟨0, Nat.zero_le _, rfl, OwnI.nil _ _, Below.refl _ _⟩
        case round =>
          obtain ⟨k, hk, rfl, hown, hbel⟩ := hrel
          have HO : Hid (OwnI wE.heap.size wr u7 (pickI (fun j => holdC x L c j) k)) := hown
          have HB : Hid (Below wE.heap.size wE wr) := hbel
          clear hown hbel
          by_cases hlt : k < L
          · have hki : (k : Int) < (L : Int) := by omega
            have f0 := (HFl.out wr HB.out).2 k hlt
            obtain ⟨hb, hhb⟩ : ∃ b, b = holdC x L c k := ⟨_, rfl⟩
            rw [← hhb] at f0
            cases hb
            · have HP : Hid (pickI (fun j => holdC x L c j) (k + 1) = (pickI (fun j => holdC x L c j) k)) := pickI_no hhb.symm
              clear hhb
              go_wp2_with fail
              go_roundw
              case rel => exact ⟨k + 1, by omega, by go_num, by rw [HP.out]; exact HO.out, HB.out⟩
              case measure => simp [intOf]; omega
            · have HP : Hid (pickI (fun j => holdC x L c j) (k + 1) = (pickI (fun j => holdC x L c j) k) ++ [(k : Int)]) := pickI_yes hhb.symm
              clear hhb
              have hlen := pickI_len (fun j => holdC x L c j) k
              have HOA : Hid (OwnI wE.heap.size (wr.alloc (.cells #[.int .i64 (k : Int)] 3)) u7 (pickI (fun j => holdC x L c j) k)) := HO.out.below ((Below.refl _ _).alloc (Nat.le_refl _) _) (Nat.le_refl _)
              have HBA : Hid (Below wE.heap.size wE (wr.alloc (.cells #[.int .i64 (k : Int)] 3))) := HB.out.alloc HB.out.size _
              go_wp2_with (at_builtin; refine wpList_append_own _ rfl (.tmp 33) (.tmp 35) 24 rfl wE.heap.size 3 i0 (.int .i64 0) 1 8 Try.underlying24 hi0 hq0 hq1 hq2 rfl (by decide) u7 (pickI (fun j => holdC x L c j) k).length ((pickI (fun j => holdC x L c j) k).map (Value.int .i64)) rfl HOA.out ⟨wr.heap.size, 0, none⟩ 1 1 ([(k : Int)].map (Value.int .i64)) rfl rfl (newI1 _ _ _ rfl) (oneCI _) (by unfold maxLen; omega) (by omega) HBA.out.size ?_; intro v' w5 hown' hgrow hnil; have HF : Hid (OwnI wE.heap.size w5 v' ((pickI (fun j => holdC x L c j) k) ++ [(k : Int)]) ∧ Below wE.heap.size wE w5) := ownI_step HOA.out HBA.out hown' hgrow; clear hown' hgrow hnil f0)
              go_roundw
              case rel => exact ⟨k + 1, by omega, by go_num, by rw [HP.out]; exact HF.out.1, HF.out.2⟩
              case measure => simp [intOf]; omega
          · have hkn : k = L := by omega
            subst hkn
            go_wp2_with fail
            go_ret
            exact ⟨_, rfl, by rw [HG.out]; exact HO.out.mono HSE.out, HBE.out HB.out⟩
end

section
open Go.RowKit

theorem MarkW.below {lo hi B : Nat} {w w' : World} (h : MarkW lo hi w w') (hB : B ≤ lo) (hs : B ≤ w.heap.size) : Below B w w' :=
  ⟨h.os, h.tape, h.output, h.size, fun b hb => h.out b (by omega) (.inl (by omega))⟩

theorem MarkW.same {lo hi lo' hi' : Nat} {w w' : World} (h : MarkW lo hi w w') (hs : hi' ≤ w.heap.size) (ho : hi' ≤ lo ∨ hi ≤ lo') : Same lo' hi' w w' :=
  fun b h1 h2 => h.out b (by omega) (by omega)

theorem markW_marks {lo hi : Nat} {L : List (Addr × IntKind)} {w : World} (h : LeafOk w L) (hb : ∀ x ∈ L, lo ≤ x.1.block ∧ x.1.block < hi) (k : Int) : MarkW lo hi w (marks w L k) := (markRel_marks h hb k).toW

theorem leafI_block {b off n : Nat} : ∀ x ∈ leafI b off n, b ≤ x.1.block ∧ x.1.block < b + 1 := by
  intro x hx
  simp only [leafI, List.mem_map, List.mem_range] at hx
  obtain ⟨j, _, rfl⟩ := hx
  exact ⟨Nat.le_refl _, Nat.lt_succ_self _⟩

/-- The marks of a list of numbers stand in its cells. -/
theorem marksI_cell {w : World} {b n : Nat} (h : LeafOk w (leafI b 0 n)) (hn : n ≤ 1048576) : ∀ j, j < n → (marks w (leafI b 0 n) 1).cell? ⟨b, 0 + j, none⟩ = some (.int .i64 (1 + j)) := by
  intro j hj
  have := held_leafI (held_marks h (leafI_nodup b 0 n) 1) j hj
  rw [wrapI (by omega) (by omega)] at this
  exact this

/-- A list of the call's own, anew after all that lies above is changed. -/
theorem OwnI.out {base : Nat} {w : World} {v : Value} {zs : List Int} (h : OwnI base w v zs) : ∃ a c b, v = .slice a zs.length c ∧ RI base w.heap.size w a zs.length c zs ∧ (zs.length = 0 ∨ a = some ⟨b, 0, none⟩) ∧ LeafOk w (leafI b 0 zs.length) ∧ (zs.length = 0 ∨ (base ≤ b ∧ b < w.heap.size)) := h.form

theorem extL_len (x : WD) (c : CN) : (extL x c).length ≤ 128 := by
  unfold extL
  split
  · next h =>
    simp only [Bool.and_eq_true] at h
    have h1 := ((worldB_iff x).1 h.1).1.1
    have := pickI_len (fun j => holdC x x.n.toNat c j) x.n.toNat
    omega
  · simp

theorem LeafOk.blk {w w' : World} {b off n : Nat} (h : LeafOk w (leafI b off n)) (e : w'.heap[b]? = w.heap[b]?) : LeafOk w' (leafI b off n) := by
  intro x hx
  have hb := leafI_block x hx
  obtain ⟨⟨m, hm⟩, hf⟩ := h x hx
  have e' : x.1.block = b := by omega
  exact ⟨⟨m, by rw [← hm]; exact World.cell?_of_block (by rw [e']; exact e)⟩, by rw [← hf]; exact World.frozen?_of_block (by rw [e']; exact e)⟩
end

section
open Go.RowKit
set_option linter.unusedVariables false

theorem ShC.markLW {lo hi lo' hi' : Nat} {w w' : World} {d : Nat} (ih : ∀ {v0 v1 v2 v3 : Value} {c : CN} (m : Int), ShC lo hi w d (.agg #[v0, v1, v2, v3]) c → ShC lo hi w' d (.agg #[.int .i64 m, v1, v2, v3]) c) (hm : MarkW lo' hi' w w')
    (hform : ∀ {v0 v1 v2 v3 : Value} {c : CN}, ShC lo hi w d (.agg #[v0, v1, v2, v3]) c → ∃ k na nn nc ra rn rc ka kn kc, v0 = .int .i64 k ∧ v1 = .slice na nn nc ∧ v2 = .slice ra rn rc ∧ v3 = .slice ka kn kc)
    {a : Option Addr} {n cap : Nat} {cs : List CN} (h : RdL (ShC lo hi w d) lo hi w a n cap cs) : RdL (ShC lo hi w' d) lo hi w' a n cap cs := by
  obtain ⟨hl, hf, hc⟩ := h
  refine ⟨hl, hf, ?_⟩
  rcases hc with h0 | ⟨b, off, e, h1, h2, hc⟩
  · exact .inl h0
  · refine .inr ⟨b, off, e, h1, h2, fun i hi => ?_⟩
    obtain ⟨v0, v1, v2, v3, c0, c1, c2, c3, hr⟩ := hc i hi
    obtain ⟨k, na, nn, nc, ra, rn, rc, ka, kn, kc, rfl, rfl, rfl, rfl⟩ := hform hr
    obtain ⟨m, hm0⟩ := hm.int c0
    exact ⟨_, _, _, _, hm0, hm.slice c1, hm.slice c2, hm.slice c3, ih m hr⟩

theorem ShC.markW {lo hi lo' hi' : Nat} {w w' : World} (hm : MarkW lo' hi' w w') : ∀ {d : Nat} {v0 v1 v2 v3 : Value} {c : CN} (m : Int), ShC lo hi w d (.agg #[v0, v1, v2, v3]) c → ShC lo hi w' d (.agg #[.int .i64 m, v1, v2, v3]) c := by
  intro d
  induction d with
  | zero => intro v0 v1 v2 v3 c m h; exact h
  | succ d ih =>
    intro v0 v1 v2 v3 c m h
    obtain ⟨k, na, nn, nc, ra, rn, rc, ka, kn, kc, hv, h1, h2, h3, h4, h5⟩ := h
    simp only [Value.agg.injEq, Array.mk.injEq, List.cons.injEq, and_true] at hv
    obtain ⟨_, rfl, rfl, rfl⟩ := hv
    exact ⟨m, na, nn, nc, ra, rn, rc, ka, kn, kc, rfl, h1, ShB.markW hm h2, h3, ShB.markW hm h4, ShC.markLW ih hm ShC.form h5⟩

theorem RdL.markW {lo hi lo' hi' : Nat} {w w' : World} (hm : MarkW lo' hi' w w') {d : Nat} {a : Option Addr} {n cap : Nat} {cs : List CN} (h : RdL (ShC lo hi w d) lo hi w a n cap cs) : RdL (ShC lo hi w' d) lo hi w' a n cap cs :=
  ShC.markLW (ShC.markW hm) hm ShC.form h

def MkLW (d : Nat) : Prop := ∀ (a : Option Addr) (n cap : Nat) (cs : List CN) (k : Int) (w : World) (lo hi : Nat), RdL (ShC lo hi w d) lo hi w a n cap cs → hi ≤ w.heap.size → Free lo hi w → bulks cs ≤ 1048576 → 0 ≤ k → k + bulks cs ≤ 288230376151711744 →
  Calls Try.prog 21 #[.slice a n cap, .int .i64 k] w fun e w' => e = .returned (.int .i64 (k + bulks cs)) ∧ MarkW lo hi w w'

set_option maxRecDepth 100000 in
set_option maxHeartbeats 1000000 in
theorem mkLW_of {d : Nat} (H : ∀ d', d = d' + 1 → MkLW d') : MkLW d := by
  intro a n cap cs k w lo hi h hhi hF hbk hk0 hk1
  have HR : Hid (RdL (ShC lo hi w d) lo hi w a n cap cs) := h
  have HL : Hid (cs.length = n) := h.len
  have hfit := h.fits
  have HF : Hid (Free lo hi w) := hF
  clear h hF
  go_enter Try.func21, Try.ntmps21
  go_wp2_with fail
  go_loopw [1, 5] (fun q i wr => ∃ (j : Nat) (t : Nat), j ≤ n ∧ i = .int .i64 j ∧ t = bulks (cs.take j) ∧ q = .int .i64 (k + t) ∧ MarkW lo hi w wr) (fun _ i _ => n - (intOf i).toNat)
  case atStart => exact ⟨0, 0, Nat.zero_le _, rfl, by simp [bulks], by simp, MarkW.refl _ _ _⟩
  case round =>
    obtain ⟨j, t, hj, rfl, ht, rfl, hmr⟩ := hrel
    have HMR : Hid (MarkW lo hi w wr) := hmr
    have HT : Hid (t = bulks (cs.take j)) := ht
    have htl : t ≤ 1048576 := by have := bulks_take_le cs j; omega
    by_cases hlt : j < n
    · have hjl : j < cs.length := by rw [HL.out]; exact hlt
      have hji : (j : Int) < (n : Int) := by omega
      have hR := RdL.markW hmr HR.out
      have hFr := HF.out.markW hmr hhi
      rcases hR.cells with h0 | ⟨b, off, e1, hb1, hb2, hc⟩
      · omega
      · subst e1
        obtain ⟨v0, v1, v2, v3, c0, c1, c2, c3, hs⟩ := hc j hlt
        cases d with
        | zero => exact hs.elim
        | succ d' =>
          have HH : Hid (MkLW d') := H d' rfl
          obtain ⟨k0, na, nn, nc, ra, rn, rc, ka, kn, kc, hv, hnl, hnb, hrl, hrb, hkd⟩ := hs
          simp only [Value.agg.injEq, Array.mk.injEq, List.cons.injEq, and_true] at hv
          obtain ⟨rfl, rfl, rfl, rfl⟩ := hv
          have hts := bulks_take_succ cs j hjl
          have htl2 := bulks_take_le cs (j + 1)
          have hbe := (cs.getD j CN.zero).bulk_eq
          rw [hnl, hrl] at hbe
          obtain ⟨u, hu⟩ : ∃ u, u = bulks (cs.getD j CN.zero).kids := ⟨_, rfl⟩
          rw [← hu] at hbe
          have HU : Hid (u = bulks (cs.getD j CN.zero).kids) := hu
          have HTS : Hid (bulks (cs.take (j + 1)) = t + 1 + nn + rn + u) := by unfold Hid; rw [hts, ← ht]; omega
          have hbnd : t + 1 + nn + rn + u ≤ bulks cs := by rw [hts, ← ht] at htl2; omega
          have f0 := hFr b hb1 hb2 (off + j * 4)
          have hm1 : MarkW lo hi wr (wr.setCell ⟨b, off + j * 4, none⟩ (.int .i64 (k + t))) := MarkW.setI c0 hb1 hb2 _
          obtain ⟨W1, hW1⟩ : ∃ W1, W1 = wr.setCell ⟨b, off + j * 4, none⟩ (.int .i64 (k + t)) := ⟨_, rfl⟩
          rw [← hW1] at hm1
          have HW1 : Hid (W1 = wr.setCell ⟨b, off + j * 4, none⟩ (.int .i64 (k + t))) := hW1
          have HM1 : Hid (MarkW lo hi wr W1) := hm1
          have d1 := hm1.slice c1
          have d2 := hm1.slice c2
          have d3 := hm1.slice c3
          have hsr := hmr.size
          have HFr : Hid (Free lo hi wr) := hFr
          have HNB : Hid (ShB lo hi wr na nn nc) := hnb
          have HRB : Hid (ShB lo hi wr ra rn rc) := hrb
          have HKD : Hid (RdL (ShC lo hi wr d') lo hi wr ka kn kc (cs.getD j CN.zero).kids) := hkd
          clear hR hc hFr hnb hrb hkd hW1 hm1 hts htl2 hbe hu hnl hrl H hmr ht
          go_wp2_with fail
          rw [← HW1.out]
          have sw1 := HM1.out.size
          refine (markBW_any na nn nc (k + t + 1) W1 (ShB.markW HM1.out HNB.out) (HFr.out.markW HM1.out (by omega)) (Nat.le_trans hhi (by omega)) (by omega) (by omega)).mono ?_
          rintro e W2 ⟨rfl, hm2⟩
          have HM2 : Hid (MarkW lo hi wr W2) := HM1.out.trans hm2
          have e2 := hm2.slice d2
          have e3 := hm2.slice d3
          have sw2 := hm2.size
          clear hm2 d1 d2 d3
          go_wp2_with fail
          refine (markBW_any ra rn rc (k + t + 1 + nn) W2 (ShB.markW HM2.out HRB.out) (HFr.out.markW HM2.out (by omega)) (Nat.le_trans hhi (by omega)) (by omega) (by omega)).mono ?_
          rintro e W3 ⟨rfl, hm3⟩
          have HM3 : Hid (MarkW lo hi wr W3) := HM2.out.trans hm3
          have g3 := hm3.slice e3
          have sw3 := hm3.size
          clear hm3 e2 e3
          go_wp2_with fail
          refine (HH.out ka kn kc (cs.getD j CN.zero).kids (k + t + 1 + nn + rn) W3 lo hi (RdL.markW HM3.out HKD.out) (by omega) (HFr.out.markW HM3.out (by omega)) (by rw [← HU.out]; omega) (by omega) (by rw [← HU.out]; omega)).mono ?_
          rintro e W4 ⟨rfl, hm4⟩
          rw [← HU.out]
          have HM4 : Hid (MarkW lo hi w W4) := HMR.out.trans (HM3.out.trans hm4)
          clear hm4 g3
          go_wp2_with fail
          go_roundw
          case rel => exact ⟨j + 1, t + 1 + nn + rn + u, by omega, by go_num, HTS.out.symm, by congr 1; push_cast; omega, HM4.out⟩
          case measure => simp [intOf]; omega
    · have hjn : j = n := by omega
      have HE : Hid (t = bulks cs) := by unfold Hid; rw [HT.out, List.take_of_length_le (by rw [HL.out]; omega)]
      clear hmr ht
      go_wp2_with fail
      go_ret
      exact ⟨ri (by rw [HE.out]), HMR.out⟩

theorem mkLW_any : ∀ d, MkLW d
  | 0 => mkLW_of (fun d' h => by omega)
  | d + 1 => mkLW_of (fun d' h => by obtain rfl : d = d' := (by omega); exact mkLW_any d)

theorem BoxC.markW {lo hi : Nat} {W W' : World} {b : Nat} {v0 v1 v2 v3 : Value} (h : BoxC W b v0 v1 v2 v3) (hm : MarkW lo hi W W') (hb : hi ≤ b) : BoxC W' b v0 v1 v2 v3 := (hm.out b h.lt (.inr hb)).trans h

set_option maxRecDepth 100000 in
set_option maxHeartbeats 1000000 in
theorem markConW_any {d : Nat} (v : Value) (c : CN) (k : Int) (w : World) {lo hi : Nat} (h : ShC lo hi w d v c) (hhi : hi ≤ w.heap.size) (hF : Free lo hi w) (hbk : c.bulk ≤ 1048576) (hk0 : 0 ≤ k) (hk1 : k ≤ 144115188075855872) :
    Calls Try.prog 15 #[v, .int .i64 k] w fun e w' => e = .returned (.int .i64 (k + c.bulk)) ∧ MarkW lo hi w w' := by
  cases d with
  | zero => exact h.elim
  | succ d =>
    obtain ⟨k0, na, nn, nc, ra, rn, rc, ka, kn, kc, rfl, hnl, hnb, hrl, hrb, hkd⟩ := h
    have hbe := c.bulk_eq
    rw [hnl, hrl] at hbe
    obtain ⟨u, hu⟩ : ∃ u, u = bulks c.kids := ⟨_, rfl⟩
    rw [← hu] at hbe
    have HU : Hid (u = bulks c.kids) := hu
    have HBe : Hid (c.bulk = nn + rn + u) := hbe
    rw [hbe] at hbk
    have hm0 : MarkW lo hi w (w.alloc (.cells #[.int .i64 k0, .slice na nn nc, .slice ra rn rc, .slice ka kn kc] 38)) := (MarkRel.of_below ((Below.refl _ _).alloc (Nat.le_refl _) _)).toW
    obtain ⟨W0, hW0⟩ : ∃ W0, W0 = w.alloc (.cells #[.int .i64 k0, .slice na nn nc, .slice ra rn rc, .slice ka kn kc] 38) := ⟨_, rfl⟩
    have HW0 : Hid (W0 = w.alloc (.cells #[.int .i64 k0, .slice na nn nc, .slice ra rn rc, .slice ka kn kc] 38)) := hW0
    rw [← hW0] at hm0
    have HM0 : Hid (MarkW lo hi w W0) := hm0
    have HBx : Hid (BoxC W0 w.heap.size (.int .i64 k0) (.slice na nn nc) (.slice ra rn rc) (.slice ka kn kc)) := by unfold Hid; rw [hW0]; exact BoxC.new w _ _ _ _
    have HNB : Hid (ShB lo hi w na nn nc) := hnb
    have HRB : Hid (ShB lo hi w ra rn rc) := hrb
    have HKD : Hid (RdL (ShC lo hi w d) lo hi w ka kn kc c.kids) := hkd
    have HF : Hid (Free lo hi w) := hF
    have sw0 := hm0.size
    obtain ⟨b0, b1, b2, b3⟩ := HBx.out.cells
    clear hnb hrb hkd hF hm0 hW0 hu hbe hnl hrl
    go_enter Try.func15, Try.ntmps15
    go_wp2_with fail
    rw [← HW0.out]
    refine (markBW_any na nn nc k W0 (ShB.markW HM0.out HNB.out) (HF.out.markW HM0.out hhi) (Nat.le_trans hhi HM0.out.size) (by omega) (by omega)).mono ?_
    rintro e W2 ⟨rfl, hm2⟩
    have HM2 : Hid (MarkW lo hi w W2) := HM0.out.trans hm2
    have HBx2 : Hid (BoxC W2 w.heap.size (.int .i64 k0) (.slice na nn nc) (.slice ra rn rc) (.slice ka kn kc)) := HBx.out.markW hm2 hhi
    clear b0 b1 b2 b3 hm2
    obtain ⟨b0, b1, b2, b3⟩ := HBx2.out.cells
    go_wp2_with fail
    refine (markBW_any ra rn rc (k + nn) W2 (ShB.markW HM2.out HRB.out) (HF.out.markW HM2.out hhi) (Nat.le_trans hhi HM2.out.size) (by omega) (by omega)).mono ?_
    rintro e W3 ⟨rfl, hm3⟩
    have HM3 : Hid (MarkW lo hi w W3) := HM2.out.trans hm3
    have HBx3 : Hid (BoxC W3 w.heap.size (.int .i64 k0) (.slice na nn nc) (.slice ra rn rc) (.slice ka kn kc)) := HBx2.out.markW hm3 hhi
    clear b0 b1 b2 b3 hm3
    obtain ⟨b0, b1, b2, b3⟩ := HBx3.out.cells
    go_wp2_with fail
    refine (mkLW_any d ka kn kc c.kids (k + nn + rn) W3 lo hi (RdL.markW HM3.out HKD.out) (Nat.le_trans hhi HM3.out.size) (HF.out.markW HM3.out hhi) (by rw [← HU.out]; omega) (by omega) (by rw [← HU.out]; omega)).mono ?_
    rintro e W4 ⟨rfl, hm4⟩
    rw [← HU.out]
    have HM4 : Hid (MarkW lo hi w W4) := HM3.out.trans hm4
    clear hm4
    go_wp2_with fail
    go_ret
    exact ⟨ri (by rw [HBe.out]; push_cast; omega), HM4.out⟩
end

end Go.Proofs.Ytfbokljbmihlbaa
