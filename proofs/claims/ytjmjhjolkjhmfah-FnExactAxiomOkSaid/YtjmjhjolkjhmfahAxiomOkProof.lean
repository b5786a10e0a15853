/- For every axiom the law FnExactAxiomOk answers true and the axiom reads behind the call as it did before: no condition. -/
import Derived.Test.YtjmjhjolkjhmfahRows
import Derived.Test.YtjmjhjolkjhmfahAxSpec2
import Derived.Test.YtjmjhjolkjhmfahAxImpl4
import Derived.Test.YtjmjhjolkjhmfahAxLaw1
import Derived.Test.YtjmjhjolkjhmfahAxLaw2
import Derived.Test.YtjmjhjolkjhmfahConOpen
import Derived.WalkKit
import Derived.ProofKit
import Derived.OpenShut
import Derived.ShutString
import Derived.ChangeOld
import Derived.Below
import Derived.Deep.RegionHeld
namespace Go.Proofs.Ytjmjhjolkjhmfah.fnExactAxiomOk
open Go.ChangeShapes Go.WideShapes Go.ChangeAt Go.RowKit Go.Deep
set_option linter.unusedVariables false

theorem own : ownKnob Try.prog.godebug = none := by kernel_rfl
theorem laidOut : laidOutB Try.prog = true := by kernel_rfl

theorem trod_seven {H : Type} {enc : TypeId × Value → H} {P : Program} {w : World} {base : Nat} {spare : Nat → Bool} {held : Bool} {t : TypeId} {f0 f1 f2 f3 f4 f5 f6 : Field} {fuel : Nat} {cs : List Value} {x : DataW H × List MemPlace} (ht : P.underlying t = some (.struct #[f0, f1, f2, f3, f4, f5, f6])) (h : DataW.trod enc P w base spare held fuel t cs = some x) :
    ∃ y0 y1 y2 y3 y4 y5 y6 n, fuel = n + 1 ∧ cs.length = P.cellsOf t ∧ DataW.trod enc P w base spare held n f0.type ((cs.drop f0.offset).take (P.cellsOf f0.type)) = some y0 ∧ DataW.trod enc P w base spare held n f1.type ((cs.drop f1.offset).take (P.cellsOf f1.type)) = some y1 ∧
      DataW.trod enc P w base spare held n f2.type ((cs.drop f2.offset).take (P.cellsOf f2.type)) = some y2 ∧ DataW.trod enc P w base spare held n f3.type ((cs.drop f3.offset).take (P.cellsOf f3.type)) = some y3 ∧ DataW.trod enc P w base spare held n f4.type ((cs.drop f4.offset).take (P.cellsOf f4.type)) = some y4 ∧
      DataW.trod enc P w base spare held n f5.type ((cs.drop f5.offset).take (P.cellsOf f5.type)) = some y5 ∧ DataW.trod enc P w base spare held n f6.type ((cs.drop f6.offset).take (P.cellsOf f6.type)) = some y6 := by
  obtain ⟨xs, n, hn, _, hl, hlen, hf⟩ := DataW.trod_struct ht h
  match xs, hlen with
  | [y0, y1, y2, y3, y4, y5, y6], _ => exact ⟨y0, y1, y2, y3, y4, y5, y6, n, hn, hl, by simpa using hf 0 f0 rfl, by simpa using hf 1 f1 rfl, by simpa using hf 2 f2 rfl, by simpa using hf 3 f3 rfl, by simpa using hf 4 f4 rfl, by simpa using hf 5 f5 rfl, by simpa using hf 6 f6 rfl⟩

set_option maxRecDepth 100000 in
theorem open_axiom {H : Type} {enc : TypeId × Value → H} {w : World} {fuel : Nat} {cs : List Value} {y : DataW H × List MemPlace} (h : DataW.trod enc Try.prog w 0 (fun _ => true) true fuel 45 cs = some y) :
    ∃ dp k c0 c1 c2 c3 d0 d1 d2 d3 ra rn rc sa sn sc aa an ac ba bn bc x, cs = [.int .i64 k, c0, c1, c2, c3, d0, d1, d2, d3, .slice ra rn rc, .slice sa sn sc, .slice aa an ac, .slice ba bn bc] ∧ k = x.kind ∧ RdA 0 w.heap.size w dp c0 c1 c2 c3 d0 d1 d2 d3 ra rn rc sa sn sc aa an ac ba bn bc x := by
  have c13 : Try.prog.cellsOf 45 = 13 := by kernel_rfl
  have c4 : Try.prog.cellsOf 25 = 4 := by kernel_rfl
  have ci : Try.prog.cellsOf 3 = 1 := by kernel_rfl
  have cb : Try.prog.cellsOf 22 = 1 := by kernel_rfl
  obtain ⟨y0, y1, y2, y3, y4, y5, y6, n, hn, hl, t0, t1, t2, t3, t4, t5, t6⟩ := trod_seven Try.underlying45 h
  rw [c13] at hl
  match cs, hl with
  | [a0, a1, a2, a3, a4, a5, a6, a7, a8, a9, a10, a11, a12], _ =>
    simp only [ci, cb, c4, List.drop_zero, List.drop_succ_cons, List.take_succ_cons, List.take_zero] at t0 t1 t2 t3 t4 t5 t6
    obtain ⟨k, hk, _, _⟩ := DataW.trod_int Try.underlying3 t0
    obtain ⟨u0, u1, u2, u3, cc, hc, hcr⟩ := open_con n n _ _ (Nat.le_refl _) t1
    obtain ⟨w0, w1, w2, w3, dd, hd, hdr⟩ := open_con n n _ _ (Nat.le_refl _) t2
    obtain ⟨ra, rn, rc, rz, hrz, hrr⟩ := open_bytes t3
    obtain ⟨sa, sn, sc, sz, hsz, hsr⟩ := open_bytes t4
    obtain ⟨aa, an, ac, az, haz, har⟩ := open_bytes t5
    obtain ⟨ba, bn, bc, bz, hbz, hbr⟩ := open_bytes t6
    simp only [List.cons.injEq, and_true] at hk hc hd
    obtain ⟨rfl, rfl, rfl, rfl⟩ := hc
    obtain ⟨rfl, rfl, rfl, rfl⟩ := hd
    subst hk hrz hsz haz hbz
    exact ⟨n, k, _, _, _, _, _, _, _, _, ra, rn, rc, sa, sn, sc, aa, an, ac, ba, bn, bc, ⟨k, cc, dd, rz, sz, az, bz⟩, rfl, rfl, ⟨hcr, hdr, hrr, hsr, har, hbr⟩⟩

set_option maxRecDepth 100000 in
set_option maxHeartbeats 8000000 in
theorem walk {dp : Nat} {c0 c1 c2 c3 d0 d1 d2 d3 : Value} {ra : Option Addr} {rn rc : Nat} {sa : Option Addr} {sn sc : Nat} {aa : Option Addr} {an ac : Nat} {ba : Option Addr} {bn bc : Nat} {x : AX} (k : Int) (hk : k = x.kind) (w : World) (hR : RdA 0 w.heap.size w dp c0 c1 c2 c3 d0 d1 d2 d3 ra rn rc sa sn sc aa an ac ba bn bc x) :
    Calls Try.prog 8 #[.agg #[.int .i64 k, c0, c1, c2, c3, d0, d1, d2, d3, .slice ra rn rc, .slice sa sn sc, .slice aa an ac, .slice ba bn bc]] w fun e w' => e = .returned (.bool true) ∧ Below w.heap.size w w' := by
  obtain ⟨Wb, hWb⟩ : ∃ Wb, Wb = w.alloc (.cells #[.int .i64 k, c0, c1, c2, c3, d0, d1, d2, d3, .slice ra rn rc, .slice sa sn sc, .slice aa an ac, .slice ba bn bc] 45) := ⟨_, rfl⟩
  have HWb : Hid (Wb = w.alloc (.cells #[.int .i64 k, c0, c1, c2, c3, d0, d1, d2, d3, .slice ra rn rc, .slice sa sn sc, .slice aa an ac, .slice ba bn bc] 45)) := hWb
  have hbb : Below w.heap.size w Wb := by rw [hWb]; exact (Below.refl _ _).alloc (Nat.le_refl _) _
  have HBB : Hid (Below w.heap.size w Wb) := hbb
  have hsb : Wb.heap.size = w.heap.size + 1 := by rw [hWb]; simp
  have HRb : Hid (RdA 0 w.heap.size Wb dp c0 c1 c2 c3 d0 d1 d2 d3 ra rn rc sa sn sc aa an ac ba bn bc x) := hR.below hbb (Nat.le_refl _)
  have hbx : BoxA 45 Wb w.heap.size k c0 c1 c2 c3 d0 d1 d2 d3 (.slice ra rn rc) (.slice sa sn sc) (.slice aa an ac) (.slice ba bn bc) := by rw [hWb]; exact BoxA.new _ w _ _ _ _ _ _ _ _ _ _ _ _ _
  have HAt : Hid (∀ W, Below Wb.heap.size Wb W → BoxA 45 W w.heap.size k c0 c1 c2 c3 d0 d1 d2 d3 (.slice ra rn rc) (.slice sa sn sc) (.slice aa an ac) (.slice ba bn bc)) := fun W hW => hbx.below hW (by omega)
  have HK : Hid (k = x.kind) := hk
  obtain ⟨ok, hok⟩ : ∃ ok, ok = axOk x := ⟨_, rfl⟩
  have HOk : Hid (ok = axOk x) := hok
  have hokk : (ok != ok) = false := by simp
  obtain ⟨z0, z1, z2, z3, z4, z5, z6, z7, z8, z9, z10, z11, z12⟩ := hbx.cells
  clear hR hbb hWb hbx hk hok
  go_enter Try.func8, Try.ntmps8
  go_wp2_with fail
  rw [← HWb.out]
  refine (szAx_any HRb.out (by omega) k).mono ?_
  rintro e w0 ⟨r, rfl, hbounds, hb⟩
  have HBo : Hid (¬ r < 0 → x.c.bulk ≤ 1048576 ∧ x.d.bulk ≤ 1048576 ∧ rn ≤ 1048576 ∧ sn ≤ 1048576 ∧ an ≤ 1048576 ∧ bn ≤ 1048576) := hbounds
  have H0 : Hid (Below Wb.heap.size Wb w0) := hb
  have s0 := hb.size
  clear z0 z1 z2 z3 z4 z5 z6 z7 z8 z9 z10 z11 z12 hb hbounds
  obtain ⟨z0, z1, z2, z3, z4, z5, z6, z7, z8, z9, z10, z11, z12⟩ := (HAt.out _ H0.out).cells
  by_cases hneg : r < 0
  · go_wp2_with fail
    go_ret
    exact ⟨rfl, HBB.out.trans (H0.out.mono (by omega))⟩
  · have HBd : Hid (x.c.bulk ≤ 1048576 ∧ x.d.bulk ≤ 1048576 ∧ rn ≤ 1048576 ∧ sn ≤ 1048576 ∧ an ≤ 1048576 ∧ bn ≤ 1048576) := HBo.out hneg
    have HTo : Hid (∀ W, Below Wb.heap.size Wb W → Calls Try.prog 32 #[.agg #[.int .i64 k, c0, c1, c2, c3, d0, d1, d2, d3, .slice ra rn rc, .slice sa sn sc, .slice aa an ac, .slice ba bn bc]] W fun e w' => ∃ u0 u1 u2 u3 y0 y1 y2 y3 g0 g1 g2 g3, e = .returned (.agg #[.int .i64 k, u0, u1, u2, u3, y0, y1, y2, y3, .slice (some ⟨g0, 0, none⟩) rn rn, .slice (some ⟨g1, 0, none⟩) sn sn, .slice (some ⟨g2, 0, none⟩) an an, .slice (some ⟨g3, 0, none⟩) bn bn]) ∧
      RdA W.heap.size w'.heap.size w' dp u0 u1 u2 u3 y0 y1 y2 y3 (some ⟨g0, 0, none⟩) rn rn (some ⟨g1, 0, none⟩) sn sn (some ⟨g2, 0, none⟩) an an (some ⟨g3, 0, none⟩) bn bn x ∧ Below W.heap.size W w') := fun W hW => toAx_any (HRb.out.below hW (by omega)) (Nat.le_trans (by omega) hW.size) HBd.out.1 HBd.out.2.1 HBd.out.2.2.1 HBd.out.2.2.2.1 HBd.out.2.2.2.2.1 HBd.out.2.2.2.2.2 k
    go_wp2_with fail
    refine (HTo.out w0 H0.out).mono ?_
    rintro e w1 ⟨au0, au1, au2, au3, ay0, ay1, ay2, ay3, ag0, ag1, ag2, ag3, rfl, hx1, hb1⟩
    have H1 : Hid (Below Wb.heap.size Wb w1) := H0.out.trans (hb1.mono s0)
    have HX1 : Hid (RdA w0.heap.size w1.heap.size w1 dp au0 au1 au2 au3 ay0 ay1 ay2 ay3 (some ⟨ag0, 0, none⟩) rn rn (some ⟨ag1, 0, none⟩) sn sn (some ⟨ag2, 0, none⟩) an an (some ⟨ag3, 0, none⟩) bn bn x) := hx1
    have s1 := hb1.size
    clear hx1 hb1 z0 z1 z2 z3 z4 z5 z6 z7 z8 z9 z10 z11 z12
    go_wp2_with fail
    refine (specAxiomOk_any HX1.out (Nat.le_refl _) k HK.out).mono ?_
    rintro e w2 ⟨rfl, hb2⟩
    rw [← HOk.out]
    have H2 : Hid (Below Wb.heap.size Wb w2) := H1.out.trans (hb2.mono (by omega))
    have s2 := hb2.size
    clear hb2
    obtain ⟨z0, z1, z2, z3, z4, z5, z6, z7, z8, z9, z10, z11, z12⟩ := (HAt.out _ H2.out).cells
    go_wp2_with fail
    refine (HTo.out w2 H2.out).mono ?_
    rintro e w3 ⟨bu0, bu1, bu2, bu3, by0, by1, by2, by3, bg0, bg1, bg2, bg3, rfl, hx3, hb3⟩
    obtain ⟨e0k, e1a, e1n, e1c, e2a, e2n, e2c, e3a, e3n, e3c, rfl, rfl, rfl, rfl⟩ := hx3.c.sh.form
    obtain ⟨f0k, f1a, f1n, f1c, f2a, f2n, f2c, f3a, f3n, f3c, rfl, rfl, rfl, rfl⟩ := hx3.d.sh.form
    have s3 := hb3.size
    obtain ⟨w4, hw4⟩ : ∃ w4, w4 = w3.alloc (.cells #[.int .i64 k, .int .i64 e0k, .slice e1a e1n e1c, .slice e2a e2n e2c, .slice e3a e3n e3c, .int .i64 f0k, .slice f1a f1n f1c, .slice f2a f2n f2c, .slice f3a f3n f3c, .slice (some ⟨bg0, 0, none⟩) rn rn, .slice (some ⟨bg1, 0, none⟩) sn sn, .slice (some ⟨bg2, 0, none⟩) an an, .slice (some ⟨bg3, 0, none⟩) bn bn] 49) := ⟨_, rfl⟩
    have HW4 : Hid (w4 = w3.alloc (.cells #[.int .i64 k, .int .i64 e0k, .slice e1a e1n e1c, .slice e2a e2n e2c, .slice e3a e3n e3c, .int .i64 f0k, .slice f1a f1n f1c, .slice f2a f2n f2c, .slice f3a f3n f3c, .slice (some ⟨bg0, 0, none⟩) rn rn, .slice (some ⟨bg1, 0, none⟩) sn sn, .slice (some ⟨bg2, 0, none⟩) an an, .slice (some ⟨bg3, 0, none⟩) bn bn] 49)) := hw4
    have hb4 : Below w3.heap.size w3 w4 := by rw [hw4]; exact (Below.refl _ _).alloc (Nat.le_refl _) _
    have s4 : w4.heap.size = w3.heap.size + 1 := by rw [hw4]; simp
    have H4 : Hid (Below Wb.heap.size Wb w4) := (H2.out.trans (hb3.mono (by omega))).trans (hb4.mono (by omega))
    have HX4 : Hid (RdA w2.heap.size w3.heap.size w4 dp (.int .i64 e0k) (.slice e1a e1n e1c) (.slice e2a e2n e2c) (.slice e3a e3n e3c) (.int .i64 f0k) (.slice f1a f1n f1c) (.slice f2a f2n f2c) (.slice f3a f3n f3c) (some ⟨bg0, 0, none⟩) rn rn (some ⟨bg1, 0, none⟩) sn sn (some ⟨bg2, 0, none⟩) an an (some ⟨bg3, 0, none⟩) bn bn x) := hx3.below hb4 (Nat.le_refl _)
    have hbX : BoxA 49 w4 w3.heap.size k (.int .i64 e0k) (.slice e1a e1n e1c) (.slice e2a e2n e2c) (.slice e3a e3n e3c) (.int .i64 f0k) (.slice f1a f1n f1c) (.slice f2a f2n f2c) (.slice f3a f3n f3c) (.slice (some ⟨bg0, 0, none⟩) rn rn) (.slice (some ⟨bg1, 0, none⟩) sn sn) (.slice (some ⟨bg2, 0, none⟩) an an) (.slice (some ⟨bg3, 0, none⟩) bn bn) := by rw [hw4]; exact BoxA.new _ w3 _ _ _ _ _ _ _ _ _ _ _ _ _
    have HBX : Hid (BoxA 49 w4 w3.heap.size k (.int .i64 e0k) (.slice e1a e1n e1c) (.slice e2a e2n e2c) (.slice e3a e3n e3c) (.int .i64 f0k) (.slice f1a f1n f1c) (.slice f2a f2n f2c) (.slice f3a f3n f3c) (.slice (some ⟨bg0, 0, none⟩) rn rn) (.slice (some ⟨bg1, 0, none⟩) sn sn) (.slice (some ⟨bg2, 0, none⟩) an an) (.slice (some ⟨bg3, 0, none⟩) bn bn)) := hbX
    clear hx3 hb3 hb4 hw4 z0 z1 z2 z3 z4 z5 z6 z7 z8 z9 z10 z11 z12 hbX
    go_wp2_with fail
    rw [← HW4.out]
    refine (implAxiomOk_any HX4.out (by omega) HBd.out.1 HBd.out.2.1 k HK.out).mono ?_
    rintro e w5 ⟨rfl, hb5⟩
    rw [← HOk.out]
    have s5 := hb5.size
    have H5 : Hid (Below Wb.heap.size Wb w5) := H4.out.trans (hb5.mono (by omega))
    have HX5 : Hid (RdA w2.heap.size w3.heap.size w5 dp (.int .i64 e0k) (.slice e1a e1n e1c) (.slice e2a e2n e2c) (.slice e3a e3n e3c) (.int .i64 f0k) (.slice f1a f1n f1c) (.slice f2a f2n f2c) (.slice f3a f3n f3c) (some ⟨bg0, 0, none⟩) rn rn (some ⟨bg1, 0, none⟩) sn sn (some ⟨bg2, 0, none⟩) an an (some ⟨bg3, 0, none⟩) bn bn x) := HX4.out.below hb5 (by omega)
    have HBX5 : Hid (BoxA 49 w5 w3.heap.size k (.int .i64 e0k) (.slice e1a e1n e1c) (.slice e2a e2n e2c) (.slice e3a e3n e3c) (.int .i64 f0k) (.slice f1a f1n f1c) (.slice f2a f2n f2c) (.slice f3a f3n f3c) (.slice (some ⟨bg0, 0, none⟩) rn rn) (.slice (some ⟨bg1, 0, none⟩) sn sn) (.slice (some ⟨bg2, 0, none⟩) an an) (.slice (some ⟨bg3, 0, none⟩) bn bn)) := HBX.out.below hb5 (by omega)
    obtain ⟨z0, z1, z2, z3, z4, z5, z6, z7, z8, z9, z10, z11, z12⟩ := (HAt.out _ H5.out).cells
    obtain ⟨m0, m1, m2, m3, m4, m5, m6, m7, m8, m9, m10, m11, m12⟩ := HBX5.out.cells
    have H5d : Hid (Below Wb.heap.size Wb w5.drew) := H5.out.drew
    have HX5d : Hid (RdA w2.heap.size w3.heap.size w5.drew dp (.int .i64 e0k) (.slice e1a e1n e1c) (.slice e2a e2n e2c) (.slice e3a e3n e3c) (.int .i64 f0k) (.slice f1a f1n f1c) (.slice f2a f2n f2c) (.slice f3a f3n f3c) (some ⟨bg0, 0, none⟩) rn rn (some ⟨bg1, 0, none⟩) sn sn (some ⟨bg2, 0, none⟩) an an (some ⟨bg3, 0, none⟩) bn bn x) := HX5.out.below (Below.refl w5.heap.size w5).drew (by omega)
    have HBX5d : Hid (BoxA 49 w5.drew w3.heap.size k (.int .i64 e0k) (.slice e1a e1n e1c) (.slice e2a e2n e2c) (.slice e3a e3n e3c) (.int .i64 f0k) (.slice f1a f1n f1c) (.slice f2a f2n f2c) (.slice f3a f3n f3c) (.slice (some ⟨bg0, 0, none⟩) rn rn) (.slice (some ⟨bg1, 0, none⟩) sn sn) (.slice (some ⟨bg2, 0, none⟩) an an) (.slice (some ⟨bg3, 0, none⟩) bn bn)) := HBX5.out
    have s5d : w5.drew.heap.size = w5.heap.size := rfl
    clear hb5
    go_upto_region 10 with fail
    first | go_region_with (first
      | (go_at_call 32; refine (HTo.out w5.drew H5d.out).mono ?_; rintro e w6 ⟨qu0, qu1, qu2, qu3, qy0, qy1, qy2, qy3, qg0, qg1, qg2, qg3, rfl, hx6, hb6⟩; have HX6 : Hid (RdA w5.drew.heap.size w6.heap.size w6 dp qu0 qu1 qu2 qu3 qy0 qy1 qy2 qy3 (some ⟨qg0, 0, none⟩) rn rn (some ⟨qg1, 0, none⟩) sn sn (some ⟨qg2, 0, none⟩) an an (some ⟨qg3, 0, none⟩) bn bn x) := hx6; have H6 : Hid (Below Wb.heap.size Wb w6) := H5d.out.trans (hb6.mono H5d.out.size); have HY6 : Hid (RdA w2.heap.size w3.heap.size w6 dp (.int .i64 e0k) (.slice e1a e1n e1c) (.slice e2a e2n e2c) (.slice e3a e3n e3c) (.int .i64 f0k) (.slice f1a f1n f1c) (.slice f2a f2n f2c) (.slice f3a f3n f3c) (some ⟨bg0, 0, none⟩) rn rn (some ⟨bg1, 0, none⟩) sn sn (some ⟨bg2, 0, none⟩) an an (some ⟨bg3, 0, none⟩) bn bn x) := HX5d.out.below hb6 (by omega); have HS6 : Hid (w5.heap.size ≤ w6.heap.size) := hb6.size; have HBX6 := HBX5d.out.below hb6 (by omega); clear m0 m1 m2 m3 m4 m5 m6 m7 m8 m9 m10 m11 m12; obtain ⟨m0, m1, m2, m3, m4, m5, m6, m7, m8, m9, m10, m11, m12⟩ := HBX6.cells; clear hx6 hb6 HBX6)
      | (go_at_call 34; refine (eqAx_any HY6.out HX6.out (by have := HS6.out; omega) (Nat.le_refl _) k).mono ?_; rintro e w7 ⟨rfl, hb7⟩; have H7 : Hid (Below Wb.heap.size Wb w7) := H6.out.trans (hb7.mono H6.out.size); clear hb7)) | fail
    all_goals
      go_wp2_with fail
      go_ret
      exact ⟨rfl, HBB.out.trans (H7.out.mono (by omega))⟩

set_option maxRecDepth 100000 in
theorem lifted (os : Os) (started : os.Started) (H : Type) (enc : TypeId × Value → H) :
    ReturnsInHanded {} Try.checked os 8 .any (Rows.fnExactAxiomOkSpec.pre6 enc Try.prog Try.f8 Rows.fnExactAxiomOkRow.domain false) (Rows.fnExactAxiomOkSpec.post enc Try.prog Try.f8 false true false false) := by
  refine returnsInHanded_of_change (C := Try.checked) own started (by kernel_rfl) Try.func8
    (ChangeSpec.witness6 (enc := enc) (C := Try.checked) false ⟨#[], #[.agg #[.int .i64 0, .int .i64 0, .slice none 0 0, .slice none 0 0, .slice none 0 0, .int .i64 0, .slice none 0 0, .slice none 0 0, .slice none 0 0, .slice none 0 0, .slice none 0 0, .slice none 0 0, .slice none 0 0]], []⟩ 8 (by kernel_rfl) (by kernel_rfl) (by kernel_rfl) (by kernel_rfl)) ?_
  intro W base args ds gs before hval0 hW hcnd _
  have hval : ∀ (j : Nat) t v, Try.f8.params[j]? = some t → args[j]? = some v → Value.okWide Try.prog W .any base t v := hval0
  have hW' := hW
  obtain ⟨p, q, hA0, hV, rfl, hfz, hnd⟩ := hW
  have hA : DataW.TrodAll enc Try.prog W 0 (fun _ => true) true Try.f8.params.toList args.toList ds p := hA0
  rw [Try.params8] at hA hval
  obtain ⟨v0, vs0, d0, ds0, p0, q0, hargs, rfl, rfl, h0, r0⟩ := trodAll_cons hA
  obtain ⟨rfl, rfl, rfl⟩ := trodAll_nil r0
  obtain rfl : args = #[v0] := by cases args; simp_all
  obtain ⟨rfl, rfl⟩ := trodVars_none hV
  obtain ⟨cs0, rfl, _⟩ := okWide_struct Try.underlying45 (hval 0 45 v0 rfl rfl)
  have k0 := h0
  have lt0 : ∀ x ∈ p0, x.block < W.heap.size := by obtain ⟨m, hm⟩ := k0; exact DataW.trod_lt m _ _ _ hm
  obtain ⟨dp, k, c0, c1, c2, c3, d0, d1, d2, d3, ra, rn, rc, sa, sn, sc, aa, an, ac, ba, bn, bc, x, hcs, hk, w0⟩ : ∃ dp k c0 c1 c2 c3 d0 d1 d2 d3 ra rn rc sa sn sc aa an ac ba bn bc x, cs0 = #[.int .i64 k, c0, c1, c2, c3, d0, d1, d2, d3, .slice ra rn rc, .slice sa sn sc, .slice aa an ac, .slice ba bn bc] ∧ k = AX.kind x ∧ RdA 0 W.heap.size W dp c0 c1 c2 c3 d0 d1 d2 d3 ra rn rc sa sn sc aa an ac ba bn bc x := by
    obtain ⟨fuel, hf⟩ := h0
    obtain ⟨dp, k, c0, c1, c2, c3, d0, d1, d2, d3, ra, rn, rc, sa, sn, sc, aa, an, ac, ba, bn, bc, x, hv, hk, hr⟩ := open_axiom (cs := cs0.toList) (by simpa [Value.cells] using hf)
    exact ⟨dp, k, c0, c1, c2, c3, d0, d1, d2, d3, ra, rn, rc, sa, sn, sc, aa, an, ac, ba, bn, bc, x, by cases cs0; simp_all, hk, hr⟩
  subst hcs
  clear hA0 hval0
  refine (walk k hk W w0).mono fun e W' ⟨he, bel⟩ => ?_
  subst he
  exact ⟨_, rfl, _, _, _, [], _, [], hW', trodAll_mk1 (shut_bool Try.underlying4 _), (trodAll_cons_mk (Below.trod laidOut (by kernel_rfl) (of_decide_eq_true (by kernel_rfl)) k0 bel lt0) trodAll_mk0), rfl, bel.frame _, fun h => by cases h⟩

theorem over : Rows.fnExactAxiomOkRow.holds Try.pinned (OpenSpec.ofChange Rows.fnExactAxiomOkSpec) :=
  OpenClaim.holds_of_wide 8 Try.f8 rfl rfl rfl rfl rfl rfl rfl ⟨rfl, rfl, rfl, rfl, rfl⟩ rfl rfl rfl rfl rfl (by kernel_rfl) Try.func8 (by kernel_rfl)
    (of_decide_eq_true (by kernel_rfl)) (by unfold Func.isWrapper; first | (rw [if_pos (by decide +kernel)]; kernel_rfl) | (rw [if_neg (by decide +kernel)]; exact ⟨rfl, rfl⟩))
    (fun os started H enc _ => lifted os started H enc)

theorem proved : Rows.FnExactAxiomOkSaid := over
#print axioms proved
end Go.Proofs.Ytjmjhjolkjhmfah.fnExactAxiomOk
namespace Go.Proofs.Ytjmjhjolkjhmfah
theorem fnExactAxiomOk_holds : Rows.FnExactAxiomOkSaid := fnExactAxiomOk.proved
end Go.Proofs.Ytjmjhjolkjhmfah
