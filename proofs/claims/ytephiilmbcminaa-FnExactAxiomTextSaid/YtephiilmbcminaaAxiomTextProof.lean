/- For every axiom the law FnExactAxiomText answers true and the axiom reads behind the call as it did before: no condition. -/
import Derived.Test.YtephiilmbcminaaRows
import Derived.Test.YtephiilmbcminaaAxTextFn
import Derived.Test.YtephiilmbcminaaAxLaw1
import Derived.Test.YtephiilmbcminaaAxLaw3
import Derived.Test.YtephiilmbcminaaConOpen
import Derived.WalkKit
import Derived.ProofKit
import Derived.OpenShut
import Derived.ShutString
import Derived.ChangeOld
import Derived.Below
import Derived.Deep.RegionHeld
import Derived.Deep.DeepCutAuto
namespace Go.Proofs.Ytephiilmbcminaa.fnExactAxiomText
open Go.ChangeShapes Go.WideShapes Go.ChangeAt Go.RowKit Go.Deep
set_option linter.unusedVariables false

theorem own : ownKnob Try.prog.godebug = none := by kernel_rfl
theorem laidOut : laidOutB Try.prog = true := by kernel_rfl

theorem trod_seven {H : Type} {enc : TypeId × Value → H} {P : Program} {w : World} {base : Nat} {spare : Nat → Bool} {held : Bool} {t : TypeId} {f0 f1 f2 f3 f4 f5 f6 : Field} {fuel : Nat} {cs : List Value} {x : DataW H × List MemPlace} (ht : P.underlying t = some (.struct #[f0, f1, f2, f3, f4, f5, f6])) (h : DataW.trod enc P w base spare held fuel t cs = some x) :
    ∃ y0 y1 y2 y3 y4 y5 y6 n, fuel = n + 1 ∧ cs.length = P.cellsOf t ∧ DataW.trod enc P w base spare held n f0.type ((cs.drop f0.offset).take (P.cellsOf f0.type)) = some y0 ∧ DataW.trod enc P w base spare held n f1.type ((cs.drop f1.offset).take (P.cellsOf f1.type)) = some y1 ∧
      DataW.trod enc P w base spare held n f2.type ((cs.drop f2.offset).take (P.cellsOf f2.type)) = some y2 ∧ DataW.trod enc P w base spare held n f3.type ((cs.drop f3.offset).take (P.cellsOf f3.type)) = some y3 ∧ DataW.trod enc P w base spare held n f4.type ((cs.drop f4.offset).take (P.cellsOf f4.type)) = some y4 ∧
      DataW.trod enc P w base spare held n f5.type ((cs.drop f5.offset).take (P.cellsOf f5.type)) = some y5 ∧ DataW.trod enc P w base spare held n f6.type ((cs.drop f6.offset).take (P.cellsOf f6.type)) = some y6 := by
  obtain ⟨xs, n, hn, _, hl, hlen, hf⟩ := DataW.trod_struct ht h
  match xs, hlen with
  | [y0, y1, y2, y3, y4, y5, y6], _ => exact ⟨y0, y1, y2, y3, y4, y5, y6, n, hn, hl, by simpa using hf 0 f0 rfl, by simpa using hf 1 f1 rfl, by simpa using hf 2 f2 rfl, by simpa using hf 3 f3 rfl, by simpa using hf 4 f4 rfl, by simpa using hf 5 f5 rfl, by simpa using hf 6 f6 rfl⟩

set_option maxRecDepth 100000 in
theorem open_axiom {H : Type} {enc : TypeId × Value → H} {w : World} {fuel : Nat} {cs : List Value} {y : DataW H × List MemPlace} (h : DataW.trod enc Try.prog w 0 (fun _ => true) true fuel 48 cs = some y) :
    ∃ dp k c0 c1 c2 c3 d0 d1 d2 d3 ra rn rc sa sn sc aa an ac ba bn bc x, cs = [.int .i64 k, c0, c1, c2, c3, d0, d1, d2, d3, .slice ra rn rc, .slice sa sn sc, .slice aa an ac, .slice ba bn bc] ∧ k = x.kind ∧ RdA 0 w.heap.size w dp c0 c1 c2 c3 d0 d1 d2 d3 ra rn rc sa sn sc aa an ac ba bn bc x := by
  have c13 : Try.prog.cellsOf 48 = 13 := by kernel_rfl
  have c4 : Try.prog.cellsOf 25 = 4 := by kernel_rfl
  have ci : Try.prog.cellsOf 3 = 1 := by kernel_rfl
  have cb : Try.prog.cellsOf 22 = 1 := by kernel_rfl
  obtain ⟨y0, y1, y2, y3, y4, y5, y6, n, hn, hl, t0, t1, t2, t3, t4, t5, t6⟩ := trod_seven Try.underlying48 h
  rw [c13] at hl
  match cs, hl with
  | [a0, a1, a2, a3, a4, a5, a6, a7, a8, a9, a10, a11, a12], _ =>
    simp only [ci, cb, c4, List.drop_zero, List.drop_succ_cons, List.take_succ_cons, List.take_zero] at t0 t1 t2 t3 t4 t5 t6
    obtain ⟨k, hk, _, _⟩ := DataW.trod_int Try.underlying3 t0
    obtain ⟨u0, u1, u2, u3, cc, hc, hcr⟩ := open_con n n _ _ (Nat.le_refl _) t1
    obtain ⟨w0, w1, w2, w3, dd, hd, hdr⟩ := open_con n n _ _ (Nat.le_refl _) t2
    obtain ⟨ra, rn, rc, rz, hrz, hrr⟩ := open_bytes t3
    obtain ⟨sa, sn, sc, sz, hsz, hsr⟩ := open_bytes t4
    obtain ⟨aa, an, ac, az, haz, har⟩ := open_bytes t5
    obtain ⟨ba, bn, bc, bz, hbz, hbr⟩ := open_bytes t6
    simp only [List.cons.injEq, and_true] at hk hc hd
    obtain ⟨rfl, rfl, rfl, rfl⟩ := hc
    obtain ⟨rfl, rfl, rfl, rfl⟩ := hd
    subst hk hrz hsz haz hbz
    exact ⟨n, k, _, _, _, _, _, _, _, _, ra, rn, rc, sa, sn, sc, aa, an, ac, ba, bn, bc, ⟨k, cc, dd, rz, sz, az, bz⟩, rfl, rfl, ⟨hcr, hdr, hrr, hsr, har, hbr⟩⟩

theorem LeafOk.same {lo hi : Nat} {w w' : World} {L : List (Addr × IntKind)} (h : LeafOk w L) (hs : Same lo hi w w') (hb : ∀ x ∈ L, lo ≤ x.1.block ∧ x.1.block < hi) : LeafOk w' L := by
  intro x hx
  obtain ⟨⟨n, hn⟩, hf⟩ := h x hx
  obtain ⟨h1, h2⟩ := hb x hx
  exact ⟨⟨n, (hs.cell h1 h2).trans hn⟩, (World.frozen?_of_block (w := w) (hs _ h1 h2)).trans hf⟩

theorem leafB_blk {g n : Nat} : ∀ x ∈ leafB g 0 n, x.1.block = g := by
  intro x hx
  simp only [leafB, List.mem_map] at hx
  obtain ⟨j, _, rfl⟩ := hx
  rfl

theorem leafB_in {g n lo hi : Nat} (h : n = 0 ∨ (lo ≤ g ∧ g < hi)) : ∀ x ∈ leafB g 0 n, lo ≤ x.1.block ∧ x.1.block < hi := by
  intro x hx
  rw [leafB_blk x hx]
  rcases h with h | h
  · subst h; simp [leafB] at hx
  · exact h

set_option maxRecDepth 100000 in
set_option maxHeartbeats 8000000 in
theorem walk {dp : Nat} {c0 c1 c2 c3 d0 d1 d2 d3 : Value} {ra : Option Addr} {rn rc : Nat} {sa : Option Addr} {sn sc : Nat} {aa : Option Addr} {an ac : Nat} {ba : Option Addr} {bn bc : Nat} {x : AX} (k : Int) (hk : k = x.kind) (w : World) (hR : RdA 0 w.heap.size w dp c0 c1 c2 c3 d0 d1 d2 d3 ra rn rc sa sn sc aa an ac ba bn bc x) :
    Calls Try.prog 10 #[.agg #[.int .i64 k, c0, c1, c2, c3, d0, d1, d2, d3, .slice ra rn rc, .slice sa sn sc, .slice aa an ac, .slice ba bn bc]] w fun e w' => e = .returned (.bool true) ∧ Below w.heap.size w w' := by
  obtain ⟨Wb, hWb⟩ : ∃ Wb, Wb = w.alloc (.cells #[.int .i64 k, c0, c1, c2, c3, d0, d1, d2, d3, .slice ra rn rc, .slice sa sn sc, .slice aa an ac, .slice ba bn bc] 48) := ⟨_, rfl⟩
  have HWb : Hid (Wb = w.alloc (.cells #[.int .i64 k, c0, c1, c2, c3, d0, d1, d2, d3, .slice ra rn rc, .slice sa sn sc, .slice aa an ac, .slice ba bn bc] 48)) := hWb
  have hbb : Below w.heap.size w Wb := by rw [hWb]; exact (Below.refl _ _).alloc (Nat.le_refl _) _
  have HBB : Hid (Below w.heap.size w Wb) := hbb
  have hsb : Wb.heap.size = w.heap.size + 1 := by rw [hWb]; simp
  have HRb : Hid (RdA 0 w.heap.size Wb dp c0 c1 c2 c3 d0 d1 d2 d3 ra rn rc sa sn sc aa an ac ba bn bc x) := hR.below hbb (Nat.le_refl _)
  have hbx : BoxA 48 Wb w.heap.size k c0 c1 c2 c3 d0 d1 d2 d3 (.slice ra rn rc) (.slice sa sn sc) (.slice aa an ac) (.slice ba bn bc) := by rw [hWb]; exact BoxA.new _ w _ _ _ _ _ _ _ _ _ _ _ _ _
  have HAt : Hid (∀ W, Below Wb.heap.size Wb W → BoxA 48 W w.heap.size k c0 c1 c2 c3 d0 d1 d2 d3 (.slice ra rn rc) (.slice sa sn sc) (.slice aa an ac) (.slice ba bn bc)) := fun W hW => hbx.below hW (by omega)
  have HK : Hid (k = x.kind) := hk
  have HTB : Hid (∀ i, 0 ≤ (axText x).getD i 0 ∧ (axText x).getD i 0 ≤ 255) := axText_byte hR
  have htl := axText_len x
  obtain ⟨zs, hzs⟩ : ∃ zs, zs = axText x := ⟨_, rfl⟩
  rw [← hzs] at htl
  have HZ : Hid (zs = axText x) := hzs
  obtain ⟨n, hn⟩ : ∃ n, n = zs.length := ⟨_, rfl⟩
  rw [← hn] at htl
  have HN : Hid (n = zs.length) := hn
  have hnn : ((1 + (n : Int)) != (1 + (n : Int))) = false := by simp
  obtain ⟨z0, z1, z2, z3, z4, z5, z6, z7, z8, z9, z10, z11, z12⟩ := hbx.cells
  clear hR hbb hWb hbx hk hzs hn
  go_enter Try.func10, Try.ntmps10
  go_wp2_with fail
  rw [← HWb.out]
  refine (szAx_any HRb.out (by omega) k).mono ?_
  rintro e w0 ⟨r, rfl, hbounds, hb⟩
  have HBo : Hid (¬ r < 0 → x.c.bulk ≤ 1048576 ∧ x.d.bulk ≤ 1048576 ∧ rn ≤ 1048576 ∧ sn ≤ 1048576 ∧ an ≤ 1048576 ∧ bn ≤ 1048576) := hbounds
  have H0 : Hid (Below Wb.heap.size Wb w0) := hb
  have s0 := hb.size
  clear z0 z1 z2 z3 z4 z5 z6 z7 z8 z9 z10 z11 z12 hb hbounds
  obtain ⟨z0, z1, z2, z3, z4, z5, z6, z7, z8, z9, z10, z11, z12⟩ := (HAt.out _ H0.out).cells
  by_cases hneg : r < 0
  · go_wp2_with fail
    go_ret
    exact ⟨rfl, HBB.out.trans (H0.out.mono (by omega))⟩
  · have HBd : Hid (x.c.bulk ≤ 1048576 ∧ x.d.bulk ≤ 1048576 ∧ rn ≤ 1048576 ∧ sn ≤ 1048576 ∧ an ≤ 1048576 ∧ bn ≤ 1048576) := HBo.out hneg
    have HTo : Hid (∀ W, Below Wb.heap.size Wb W → Calls Try.prog 42 #[.agg #[.int .i64 k, c0, c1, c2, c3, d0, d1, d2, d3, .slice ra rn rc, .slice sa sn sc, .slice aa an ac, .slice ba bn bc]] W fun e w' => ∃ u0 u1 u2 u3 y0 y1 y2 y3 g0 g1 g2 g3, e = .returned (.agg #[.int .i64 k, u0, u1, u2, u3, y0, y1, y2, y3, .slice (some ⟨g0, 0, none⟩) rn rn, .slice (some ⟨g1, 0, none⟩) sn sn, .slice (some ⟨g2, 0, none⟩) an an, .slice (some ⟨g3, 0, none⟩) bn bn]) ∧
      RdA W.heap.size w'.heap.size w' dp u0 u1 u2 u3 y0 y1 y2 y3 (some ⟨g0, 0, none⟩) rn rn (some ⟨g1, 0, none⟩) sn sn (some ⟨g2, 0, none⟩) an an (some ⟨g3, 0, none⟩) bn bn x ∧ Below W.heap.size W w' ∧ Free W.heap.size w'.heap.size w') := fun W hW => toAxF_any (HRb.out.below hW (by omega)) (Nat.le_trans (by omega) hW.size) HBd.out.1 HBd.out.2.1 HBd.out.2.2.1 HBd.out.2.2.2.1 HBd.out.2.2.2.2.1 HBd.out.2.2.2.2.2 k
    go_wp2_with fail
    refine (HTo.out w0 H0.out).mono ?_
    rintro e w1 ⟨au0, au1, au2, au3, ay0, ay1, ay2, ay3, ag0, ag1, ag2, ag3, rfl, hx1, hb1, _⟩
    have H1 : Hid (Below Wb.heap.size Wb w1) := H0.out.trans (hb1.mono s0)
    have HX1 : Hid (RdA w0.heap.size w1.heap.size w1 dp au0 au1 au2 au3 ay0 ay1 ay2 ay3 (some ⟨ag0, 0, none⟩) rn rn (some ⟨ag1, 0, none⟩) sn sn (some ⟨ag2, 0, none⟩) an an (some ⟨ag3, 0, none⟩) bn bn x) := hx1
    have s1 := hb1.size
    clear hx1 hb1 z0 z1 z2 z3 z4 z5 z6 z7 z8 z9 z10 z11 z12
    go_wp2_with fail
    refine (specAxText_any HX1.out (Nat.le_refl _) HBd.out.1 HBd.out.2.1 k HK.out).mono ?_
    rintro e w2 ⟨vS, rfl, hS, hb2⟩
    rw [← HZ.out] at hS
    obtain ⟨aS, cS, bS, rfl, hrS, _, _, _⟩ := hS.form (by rw [HZ.out]; exact HTB.out)
    rw [← HN.out] at hrS ⊢
    have HS : Hid (Rd w1.heap.size w2.heap.size w2 aS n cS zs) := hrS
    have H2 : Hid (Below Wb.heap.size Wb w2) := H1.out.trans (hb2.mono (by omega))
    have s2 := hb2.size
    clear hb2 hS hrS
    obtain ⟨z0, z1, z2, z3, z4, z5, z6, z7, z8, z9, z10, z11, z12⟩ := (HAt.out _ H2.out).cells
    go_wp2_with fail
    refine (HTo.out w2 H2.out).mono ?_
    rintro e w3 ⟨bu0, bu1, bu2, bu3, bv0, bv1, bv2, bv3, bg0, bg1, bg2, bg3, rfl, hx3, hb3, hf3⟩
    obtain ⟨e0k, e1a, e1n, e1c, e2a, e2n, e2c, e3a, e3n, e3c, rfl, rfl, rfl, rfl⟩ := hx3.c.sh.form
    obtain ⟨f0k, f1a, f1n, f1c, f2a, f2n, f2c, f3a, f3n, f3c, rfl, rfl, rfl, rfl⟩ := hx3.d.sh.form
    have s3 := hb3.size
    obtain ⟨w4, hw4⟩ : ∃ w4, w4 = w3.alloc (.cells #[.int .i64 k, .int .i64 e0k, .slice e1a e1n e1c, .slice e2a e2n e2c, .slice e3a e3n e3c, .int .i64 f0k, .slice f1a f1n f1c, .slice f2a f2n f2c, .slice f3a f3n f3c, .slice (some ⟨bg0, 0, none⟩) rn rn, .slice (some ⟨bg1, 0, none⟩) sn sn, .slice (some ⟨bg2, 0, none⟩) an an, .slice (some ⟨bg3, 0, none⟩) bn bn] 52) := ⟨_, rfl⟩
    have HW4 : Hid (w4 = w3.alloc (.cells #[.int .i64 k, .int .i64 e0k, .slice e1a e1n e1c, .slice e2a e2n e2c, .slice e3a e3n e3c, .int .i64 f0k, .slice f1a f1n f1c, .slice f2a f2n f2c, .slice f3a f3n f3c, .slice (some ⟨bg0, 0, none⟩) rn rn, .slice (some ⟨bg1, 0, none⟩) sn sn, .slice (some ⟨bg2, 0, none⟩) an an, .slice (some ⟨bg3, 0, none⟩) bn bn] 52)) := hw4
    have hb4 : Below w3.heap.size w3 w4 := by rw [hw4]; exact (Below.refl _ _).alloc (Nat.le_refl _) _
    have s4 : w4.heap.size = w3.heap.size + 1 := by rw [hw4]; simp
    have H4 : Hid (Below Wb.heap.size Wb w4) := (H2.out.trans (hb3.mono (by omega))).trans (hb4.mono (by omega))
    have HX4 : Hid (RdA w2.heap.size w3.heap.size w4 dp (.int .i64 e0k) (.slice e1a e1n e1c) (.slice e2a e2n e2c) (.slice e3a e3n e3c) (.int .i64 f0k) (.slice f1a f1n f1c) (.slice f2a f2n f2c) (.slice f3a f3n f3c) (some ⟨bg0, 0, none⟩) rn rn (some ⟨bg1, 0, none⟩) sn sn (some ⟨bg2, 0, none⟩) an an (some ⟨bg3, 0, none⟩) bn bn x) := hx3.below hb4 (Nat.le_refl _)
    have HFr4 : Hid (Free w2.heap.size w3.heap.size w4) := hf3.same (Same.of_below hb4 (Nat.le_refl _))
    have hbX : BoxA 52 w4 w3.heap.size k (.int .i64 e0k) (.slice e1a e1n e1c) (.slice e2a e2n e2c) (.slice e3a e3n e3c) (.int .i64 f0k) (.slice f1a f1n f1c) (.slice f2a f2n f2c) (.slice f3a f3n f3c) (.slice (some ⟨bg0, 0, none⟩) rn rn) (.slice (some ⟨bg1, 0, none⟩) sn sn) (.slice (some ⟨bg2, 0, none⟩) an an) (.slice (some ⟨bg3, 0, none⟩) bn bn) := by rw [hw4]; exact BoxA.new _ w3 _ _ _ _ _ _ _ _ _ _ _ _ _
    have HBX : Hid (BoxA 52 w4 w3.heap.size k (.int .i64 e0k) (.slice e1a e1n e1c) (.slice e2a e2n e2c) (.slice e3a e3n e3c) (.int .i64 f0k) (.slice f1a f1n f1c) (.slice f2a f2n f2c) (.slice f3a f3n f3c) (.slice (some ⟨bg0, 0, none⟩) rn rn) (.slice (some ⟨bg1, 0, none⟩) sn sn) (.slice (some ⟨bg2, 0, none⟩) an an) (.slice (some ⟨bg3, 0, none⟩) bn bn)) := hbX
    have HS4 : Hid (Rd w1.heap.size w2.heap.size w4 aS n cS zs) := (HS.out.below hb3 (Nat.le_refl _)).below hb4 (by omega)
    clear hx3 hb3 hb4 hw4 hf3 z0 z1 z2 z3 z4 z5 z6 z7 z8 z9 z10 z11 z12 hbX
    go_wp2_with fail
    rw [← HW4.out]
    refine (implAxText_any HX4.out (by omega) HBd.out.1 HBd.out.2.1 k HK.out).mono ?_
    rintro e w5 ⟨vI, rfl, hI, hb5⟩
    rw [← HZ.out] at hI
    obtain ⟨aI, cI, bI, rfl, hrI, haI, hlI, hbI⟩ := hI.form (by rw [HZ.out]; exact HTB.out)
    rw [← HN.out] at hrI haI hlI hbI ⊢
    have HI : Hid (Rd w4.heap.size w5.heap.size w5 aI n cI zs) := hrI
    have HLI : Hid (LeafOk w5 (leafB bI 0 n)) := hlI
    have HbI : Hid (n = 0 ∨ (w4.heap.size ≤ bI ∧ bI < w5.heap.size)) := hbI
    have H5 : Hid (Below Wb.heap.size Wb w5) := H4.out.trans (hb5.mono (by omega))
    have HX5 : Hid (RdA w2.heap.size w3.heap.size w5 dp (.int .i64 e0k) (.slice e1a e1n e1c) (.slice e2a e2n e2c) (.slice e3a e3n e3c) (.int .i64 f0k) (.slice f1a f1n f1c) (.slice f2a f2n f2c) (.slice f3a f3n f3c) (some ⟨bg0, 0, none⟩) rn rn (some ⟨bg1, 0, none⟩) sn sn (some ⟨bg2, 0, none⟩) an an (some ⟨bg3, 0, none⟩) bn bn x) := HX4.out.below hb5 (by omega)
    have HFr5 : Hid (Free w2.heap.size w3.heap.size w5) := HFr4.out.same (Same.of_below hb5 (by omega))
    have HBX5 : Hid (BoxA 52 w5 w3.heap.size k (.int .i64 e0k) (.slice e1a e1n e1c) (.slice e2a e2n e2c) (.slice e3a e3n e3c) (.int .i64 f0k) (.slice f1a f1n f1c) (.slice f2a f2n f2c) (.slice f3a f3n f3c) (.slice (some ⟨bg0, 0, none⟩) rn rn) (.slice (some ⟨bg1, 0, none⟩) sn sn) (.slice (some ⟨bg2, 0, none⟩) an an) (.slice (some ⟨bg3, 0, none⟩) bn bn)) := HBX.out.below hb5 (by omega)
    have HS5 : Hid (Rd w1.heap.size w2.heap.size w5 aS n cS zs) := HS4.out.below hb5 (by omega)
    have s5 := hb5.size
    clear hb5 hI hrI hlI hbI
    go_wp2_with fail
    refine (eqByteS_any _ _ _ _ _ _ zs zs _ HI.out HS5.out).mono ?_
    rintro e w6 ⟨rfl, nd6, hw6⟩
    rw [show decide (zs = zs) = true from by simp]
    have h56 : Below w5.heap.size w5 w6 := by rw [hw6]; exact below_drewN (Below.refl _ _) nd6
    have s6 : w6.heap.size = w5.heap.size := by rw [hw6]; rfl
    have H6 : Hid (Below Wb.heap.size Wb w6) := H5.out.trans (h56.mono (by omega))
    have HBX6 : Hid (BoxA 52 w6 w3.heap.size k (.int .i64 e0k) (.slice e1a e1n e1c) (.slice e2a e2n e2c) (.slice e3a e3n e3c) (.int .i64 f0k) (.slice f1a f1n f1c) (.slice f2a f2n f2c) (.slice f3a f3n f3c) (.slice (some ⟨bg0, 0, none⟩) rn rn) (.slice (some ⟨bg1, 0, none⟩) sn sn) (.slice (some ⟨bg2, 0, none⟩) an an) (.slice (some ⟨bg3, 0, none⟩) bn bn)) := HBX5.out.below h56 (by omega)
    have HX6d : Hid (RdA w2.heap.size w3.heap.size w6.drew dp (.int .i64 e0k) (.slice e1a e1n e1c) (.slice e2a e2n e2c) (.slice e3a e3n e3c) (.int .i64 f0k) (.slice f1a f1n f1c) (.slice f2a f2n f2c) (.slice f3a f3n f3c) (some ⟨bg0, 0, none⟩) rn rn (some ⟨bg1, 0, none⟩) sn sn (some ⟨bg2, 0, none⟩) an an (some ⟨bg3, 0, none⟩) bn bn x) := HX5.out.below h56.drew (by omega)
    have H6d : Hid (Below Wb.heap.size Wb w6.drew) := H6.out.drew
    have H56d : Hid (Below w5.heap.size w5 w6.drew) := h56.drew
    have s6d : w6.drew.heap.size = w5.heap.size := s6
    have HBX6d : Hid (BoxA 52 w6.drew w3.heap.size k (.int .i64 e0k) (.slice e1a e1n e1c) (.slice e2a e2n e2c) (.slice e3a e3n e3c) (.int .i64 f0k) (.slice f1a f1n f1c) (.slice f2a f2n f2c) (.slice f3a f3n f3c) (.slice (some ⟨bg0, 0, none⟩) rn rn) (.slice (some ⟨bg1, 0, none⟩) sn sn) (.slice (some ⟨bg2, 0, none⟩) an an) (.slice (some ⟨bg3, 0, none⟩) bn bn)) := HBX6.out
    obtain ⟨z0, z1, z2, z3, z4, z5, z6, z7, z8, z9, z10, z11, z12⟩ := (HAt.out _ H6.out).cells
    obtain ⟨m0, m1, m2, m3, m4, m5, m6, m7, m8, m9, m10, m11, m12⟩ := HBX6.out.cells
    clear hw6 h56
    go_upto_region 10 with fail
    go_cut [31] (fun b W => b = .bool false ∧ Below w5.heap.size w5 W)
    case first =>
      first | go_region_with (first | (go_at_call 42; refine (HTo.out w6.drew H6d.out).mono ?_; rintro e w7 ⟨qu0, qu1, qu2, qu3, qy0, qy1, qy2, qy3, qg0, qg1, qg2, qg3, rfl, hx7, hb7, _⟩; have HX7 : Hid (RdA w6.drew.heap.size w7.heap.size w7 dp qu0 qu1 qu2 qu3 qy0 qy1 qy2 qy3 (some ⟨qg0, 0, none⟩) rn rn (some ⟨qg1, 0, none⟩) sn sn (some ⟨qg2, 0, none⟩) an an (some ⟨qg3, 0, none⟩) bn bn x) := hx7; have H57 : Hid (Below w5.heap.size w5 w7) := H56d.out.trans (hb7.mono (by omega)); have HY7 : Hid (RdA w2.heap.size w3.heap.size w7 dp (.int .i64 e0k) (.slice e1a e1n e1c) (.slice e2a e2n e2c) (.slice e3a e3n e3c) (.int .i64 f0k) (.slice f1a f1n f1c) (.slice f2a f2n f2c) (.slice f3a f3n f3c) (some ⟨bg0, 0, none⟩) rn rn (some ⟨bg1, 0, none⟩) sn sn (some ⟨bg2, 0, none⟩) an an (some ⟨bg3, 0, none⟩) bn bn x) := HX6d.out.below hb7 (by omega); have HS7 : Hid (w5.heap.size ≤ w7.heap.size) := H57.out.size; have HBX7 := HBX6d.out.below hb7 (by omega); clear m0 m1 m2 m3 m4 m5 m6 m7 m8 m9 m10 m11 m12; obtain ⟨m0, m1, m2, m3, m4, m5, m6, m7, m8, m9, m10, m11, m12⟩ := HBX7.cells; clear hx7 hb7 HBX7) | (go_at_call 44; refine (eqAx_any HY7.out HX7.out (by have := HS7.out; omega) (Nat.le_refl _) k).mono ?_; rintro e w8 ⟨rfl, hb8⟩; have H58 : Hid (Below w5.heap.size w5 w8) := H57.out.trans (hb8.mono H57.out.size); clear hb8)) | fail
      all_goals
        go_wp2_with fail
        go_meet
        case rel => exact ⟨rfl, H58.out⟩
    case rest =>
      obtain ⟨hb31, h5c⟩ := hcut
      subst hb31
      have H5c : Hid (Below w5.heap.size w5 wc) := h5c
      have hsc := h5c.size
      have HXc : Hid (RdA w2.heap.size w3.heap.size wc dp (.int .i64 e0k) (.slice e1a e1n e1c) (.slice e2a e2n e2c) (.slice e3a e3n e3c) (.int .i64 f0k) (.slice f1a f1n f1c) (.slice f2a f2n f2c) (.slice f3a f3n f3c) (some ⟨bg0, 0, none⟩) rn rn (some ⟨bg1, 0, none⟩) sn sn (some ⟨bg2, 0, none⟩) an an (some ⟨bg3, 0, none⟩) bn bn x) := HX5.out.below h5c (by omega)
      have HFrc : Hid (Free w2.heap.size w3.heap.size wc) := HFr5.out.same (Same.of_below h5c (by omega))
      have HBXc : Hid (BoxA 52 wc w3.heap.size k (.int .i64 e0k) (.slice e1a e1n e1c) (.slice e2a e2n e2c) (.slice e3a e3n e3c) (.int .i64 f0k) (.slice f1a f1n f1c) (.slice f2a f2n f2c) (.slice f3a f3n f3c) (.slice (some ⟨bg0, 0, none⟩) rn rn) (.slice (some ⟨bg1, 0, none⟩) sn sn) (.slice (some ⟨bg2, 0, none⟩) an an) (.slice (some ⟨bg3, 0, none⟩) bn bn)) := HBX5.out.below h5c (by omega)
      clear m0 m1 m2 m3 m4 m5 m6 m7 m8 m9 m10 m11 m12 z0 z1 z2 z3 z4 z5 z6 z7 z8 z9 z10 z11 z12 h5c
      obtain ⟨m0, m1, m2, m3, m4, m5, m6, m7, m8, m9, m10, m11, m12⟩ := HBXc.out.cells
      go_wp2_with fail
      refine (markAx_any HXc.out (by omega) HFrc.out HBd.out.1 HBd.out.2.1 HBd.out.2.2.1 HBd.out.2.2.2.1 HBd.out.2.2.2.2.1 HBd.out.2.2.2.2.2 k).mono ?_
      rintro e w9 ⟨q, rfl, hq1, hm9⟩
      have hq0 : (decide (q < 0)) = false := by simp; omega
      have s9 := hm9.size
      have hI59 : Same w4.heap.size w5.heap.size w5 w9 := fun b h1 h2 => (hm9.out b (by omega) (.inr (by omega))).trans (H5c.out.block b h2)
      have HI9 : Hid (Rd w4.heap.size w5.heap.size w9 aI n cI zs) := HI.out.same hI59
      have HLI9 : Hid (LeafOk w9 (leafB bI 0 n)) := LeafOk.same HLI.out hI59 (leafB_in HbI.out)
      have HS9 : Hid (Rd w1.heap.size w2.heap.size w9 aS n cS zs) := HS5.out.same (fun b h1 h2 => (hm9.out b (by omega) (.inl (by omega))).trans (H5c.out.block b (by omega)))
      have H9 : Hid (Below Wb.heap.size Wb w9) := ⟨hm9.os.trans (H5.out.trans (H5c.out.mono (by omega))).os, hm9.tape.trans (H5.out.trans (H5c.out.mono (by omega))).tape, hm9.output.trans (H5.out.trans (H5c.out.mono (by omega))).output, Nat.le_trans (H5.out.trans (H5c.out.mono (by omega))).size hm9.size, fun b hb => (hm9.out b (by omega) (.inl (by omega))).trans ((H5.out.trans (H5c.out.mono (by omega))).block b hb)⟩
      clear hm9 hI59 m0 m1 m2 m3 m4 m5 m6 m7 m8 m9 m10 m11 m12
      go_wp2_with fail
      refine (eqByteS_any _ _ _ _ _ _ zs zs _ HI9.out HS9.out).mono ?_
      rintro e w10 ⟨rfl, nd10, hw10⟩
      rw [show decide (zs = zs) = true from by simp]
      have h910 : Below w9.heap.size w9 w10 := by rw [hw10]; exact below_drewN (Below.refl _ _) nd10
      have s10 : w10.heap.size = w9.heap.size := by rw [hw10]; rfl
      have H10 : Hid (Below Wb.heap.size Wb w10) := H9.out.trans (h910.mono (by omega))
      have HS10 : Hid (Rd w1.heap.size w2.heap.size w10 aS n cS zs) := HS9.out.below h910 (by omega)
      have HLI10 : Hid (LeafOk w10 (leafB bI 0 n)) := LeafOk.same HLI9.out (Same.of_below (lo := w4.heap.size) (hi := w5.heap.size) h910 (by omega)) (leafB_in HbI.out)
      clear hw10 h910
      go_wp2_with fail
      refine (markByteS_any aI n cI 1 w10 bI 0 haI HLI10.out (by omega) (by omega)).mono ?_
      rintro e w11 ⟨rfl, hw11⟩
      have s11 : w10.heap.size = w11.heap.size := by rw [hw11, size_marks]
      have H11 : Hid (Below Wb.heap.size Wb w11) := by unfold Hid; rw [hw11]; exact below_marks H10.out (fun x hx => by have := leafB_in HbI.out x hx; omega) 1
      have HS11 : Hid (Rd w1.heap.size w2.heap.size w11 aS n cS zs) := by
        refine HS10.out.same ?_
        rw [hw11]; exact same_marks (fun x hx => by have := leafB_in HbI.out x hx; omega) 1
      have HHe : Hid (Held w11 (leafB bI 0 n) 1) := by unfold Hid; rw [hw11]; exact held_marks HLI10.out (leafB_nodup _ _ _) 1
      clear hw11
      go_wp2_with fail
      refine (heldByteS_any aI n cI 1 w11 bI 0 haI (held_leafB HHe.out) (by omega) (by omega)).mono ?_
      rintro e w12 ⟨rfl, hw12⟩
      rw [hw12]
      obtain ⟨z0, z1, z2, z3, z4, z5, z6, z7, z8, z9, z10, z11, z12⟩ := (HAt.out _ H11.out).cells
      clear hw12
      go_wp2_with fail
      refine (HTo.out w11 H11.out).mono ?_
      rintro e w13 ⟨ju0, ju1, ju2, ju3, jy0, jy1, jy2, jy3, jg0, jg1, jg2, jg3, rfl, hx13, hb13, _⟩
      have HX13 : Hid (RdA w11.heap.size w13.heap.size w13 dp ju0 ju1 ju2 ju3 jy0 jy1 jy2 jy3 (some ⟨jg0, 0, none⟩) rn rn (some ⟨jg1, 0, none⟩) sn sn (some ⟨jg2, 0, none⟩) an an (some ⟨jg3, 0, none⟩) bn bn x) := hx13
      have H1113 : Hid (Below w11.heap.size w11 w13) := hb13
      have s13 := hb13.size
      clear hx13 hb13 z0 z1 z2 z3 z4 z5 z6 z7 z8 z9 z10 z11 z12
      go_wp2_with fail
      refine (implAxText_any HX13.out (Nat.le_refl _) HBd.out.1 HBd.out.2.1 k HK.out).mono ?_
      rintro e w14 ⟨vH, rfl, hH, hb14⟩
      rw [← HZ.out] at hH
      obtain ⟨aH, cH, bH, rfl, hrH, _, _, _⟩ := hH.form (by rw [HZ.out]; exact HTB.out)
      rw [← HN.out] at hrH ⊢
      have HH : Hid (Rd w13.heap.size w14.heap.size w14 aH n cH zs) := hrH
      have H1114 : Hid (Below w11.heap.size w11 w14) := H1113.out.trans (hb14.mono s13)
      have HS14 : Hid (Rd w1.heap.size w2.heap.size w14 aS n cS zs) := HS11.out.below H1114.out (by omega)
      clear hH hrH hb14
      go_wp2_with fail
      refine (eqByteS_any _ _ _ _ _ _ zs zs _ HH.out HS14.out).mono ?_
      rintro e w15 ⟨rfl, nd15, hw15⟩
      rw [show decide (zs = zs) = true from by simp]
      have H1115 : Hid (Below w11.heap.size w11 w15) := by unfold Hid; rw [hw15]; exact below_drewN H1114.out nd15
      have H15 : Hid (Below Wb.heap.size Wb w15) := H11.out.trans (H1115.out.mono (by omega))
      have HHe15 : Hid (Held w15 (leafB bI 0 n) 1) := Held.same (Same.of_below (lo := w4.heap.size) (hi := w5.heap.size) H1115.out (by omega)) (leafB_in HbI.out) HHe.out
      clear hw15
      go_wp2_with fail
      refine (heldByteS_any aI n cI 1 w15 bI 0 haI (held_leafB HHe15.out) (by omega) (by omega)).mono ?_
      rintro e w16 ⟨rfl, hw16⟩
      rw [hw16]
      clear hw16
      go_wp2_with fail
      go_ret
      exact ⟨rfl, HBB.out.trans (H15.out.mono (by omega))⟩

set_option maxRecDepth 100000 in
theorem lifted (os : Os) (started : os.Started) (H : Type) (enc : TypeId × Value → H) :
    ReturnsInHanded {} Try.checked os 10 .any (Rows.fnExactAxiomTextSpec.pre6 enc Try.prog Try.f10 Rows.fnExactAxiomTextRow.domain false) (Rows.fnExactAxiomTextSpec.post enc Try.prog Try.f10 false true false false) := by
  refine returnsInHanded_of_change (C := Try.checked) own started (by kernel_rfl) Try.func10
    (ChangeSpec.witness6 (enc := enc) (C := Try.checked) false ⟨#[], #[.agg #[.int .i64 0, .int .i64 0, .slice none 0 0, .slice none 0 0, .slice none 0 0, .int .i64 0, .slice none 0 0, .slice none 0 0, .slice none 0 0, .slice none 0 0, .slice none 0 0, .slice none 0 0, .slice none 0 0]], []⟩ 8 (by kernel_rfl) (by kernel_rfl) (by kernel_rfl) (by kernel_rfl)) ?_
  intro W base args ds gs before hval0 hW hcnd _
  have hval : ∀ (j : Nat) t v, Try.f10.params[j]? = some t → args[j]? = some v → Value.okWide Try.prog W .any base t v := hval0
  have hW' := hW
  obtain ⟨p, q, hA0, hV, rfl, hfz, hnd⟩ := hW
  have hA : DataW.TrodAll enc Try.prog W 0 (fun _ => true) true Try.f10.params.toList args.toList ds p := hA0
  rw [Try.params10] at hA hval
  obtain ⟨v0, vs0, d0, ds0, p0, q0, hargs, rfl, rfl, h0, r0⟩ := trodAll_cons hA
  obtain ⟨rfl, rfl, rfl⟩ := trodAll_nil r0
  obtain rfl : args = #[v0] := by cases args; simp_all
  obtain ⟨rfl, rfl⟩ := trodVars_none hV
  obtain ⟨cs0, rfl, _⟩ := okWide_struct Try.underlying48 (hval 0 48 v0 rfl rfl)
  have k0 := h0
  have lt0 : ∀ x ∈ p0, x.block < W.heap.size := by obtain ⟨m, hm⟩ := k0; exact DataW.trod_lt m _ _ _ hm
  obtain ⟨dp, k, c0, c1, c2, c3, d0, d1, d2, d3, ra, rn, rc, sa, sn, sc, aa, an, ac, ba, bn, bc, x, hcs, hk, w0⟩ : ∃ dp k c0 c1 c2 c3 d0 d1 d2 d3 ra rn rc sa sn sc aa an ac ba bn bc x, cs0 = #[.int .i64 k, c0, c1, c2, c3, d0, d1, d2, d3, .slice ra rn rc, .slice sa sn sc, .slice aa an ac, .slice ba bn bc] ∧ k = AX.kind x ∧ RdA 0 W.heap.size W dp c0 c1 c2 c3 d0 d1 d2 d3 ra rn rc sa sn sc aa an ac ba bn bc x := by
    obtain ⟨fuel, hf⟩ := h0
    obtain ⟨dp, k, c0, c1, c2, c3, d0, d1, d2, d3, ra, rn, rc, sa, sn, sc, aa, an, ac, ba, bn, bc, x, hv, hk, hr⟩ := open_axiom (cs := cs0.toList) (by simpa [Value.cells] using hf)
    exact ⟨dp, k, c0, c1, c2, c3, d0, d1, d2, d3, ra, rn, rc, sa, sn, sc, aa, an, ac, ba, bn, bc, x, by cases cs0; simp_all, hk, hr⟩
  subst hcs
  clear hA0 hval0
  refine (walk k hk W w0).mono fun e W' ⟨he, bel⟩ => ?_
  subst he
  exact ⟨_, rfl, _, _, _, [], _, [], hW', trodAll_mk1 (shut_bool Try.underlying4 _), (trodAll_cons_mk (Below.trod laidOut (by kernel_rfl) (of_decide_eq_true (by kernel_rfl)) k0 bel lt0) trodAll_mk0), rfl, bel.frame _, fun h => by cases h⟩

theorem over : Rows.fnExactAxiomTextRow.holds Try.pinned (OpenSpec.ofChange Rows.fnExactAxiomTextSpec) :=
  OpenClaim.holds_of_wide 10 Try.f10 rfl rfl rfl rfl rfl rfl rfl ⟨rfl, rfl, rfl, rfl, rfl⟩ rfl rfl rfl rfl rfl (by kernel_rfl) Try.func10 (by kernel_rfl)
    (of_decide_eq_true (by kernel_rfl)) (by unfold Func.isWrapper; first | (rw [if_pos (by decide +kernel)]; kernel_rfl) | (rw [if_neg (by decide +kernel)]; exact ⟨rfl, rfl⟩))
    (fun os started H enc _ => lifted os started H enc)

theorem proved : Rows.FnExactAxiomTextSaid := over
#print axioms proved
end Go.Proofs.Ytephiilmbcminaa.fnExactAxiomText
namespace Go.Proofs.Ytephiilmbcminaa
theorem fnExactAxiomText_holds : Rows.FnExactAxiomTextSaid := fnExactAxiomText.proved
end Go.Proofs.Ytephiilmbcminaa
