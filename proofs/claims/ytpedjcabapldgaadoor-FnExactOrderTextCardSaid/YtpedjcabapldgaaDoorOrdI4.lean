/- The program's look at an order: a contract. -/
import Derived.Test.YtpedjcabapldgaaDoorOrdI3
namespace Go.Proofs.YtpedjcabapldgaaDoor
open Go.RowKit

theorem order_eq {x : OD} {cn en : Nat} (h1 : x.cls.length = cn) (h2 : x.edg.length = en) : orderB x = ((decide (cn ≤ 7) && clsB x.cls) && ((decide (en ≤ 50) && edgB cn x.edg) && (decide (0 ≤ x.code) && decide (x.code ≤ 3)))) := by
  unfold orderB
  rw [h1, h2]
  generalize decide (cn ≤ 7) = a
  generalize decide (en ≤ 50) = b
  generalize decide (0 ≤ x.code) = c
  generalize decide (x.code ≤ 3) = d
  generalize clsB x.cls = e
  generalize edgB cn x.edg = f
  cases a <;> cases b <;> cases c <;> cases d <;> cases e <;> cases f <;> rfl

set_option maxRecDepth 100000 in
set_option maxHeartbeats 4000000 in
theorem implOrderOk_any {ca : Option Addr} {cn cc : Nat} {ea : Option Addr} {en ec : Nat} {x : OD} {kx : Int} {w : World} {lo hi : Nat} (h : RdO lo hi w ca cn cc ea en ec x) (hk : x.code = kx) (hhi : hi ≤ w.heap.size) (hbd : BdO x cn en) :
    Calls Tryd.prog 19 #[.agg #[.slice ca cn cc, .slice ea en ec, .int .i64 kx]] w fun e w' => e = .returned (.bool (orderB x)) ∧ Below w.heap.size w w' := by
  obtain ⟨W0, hW0⟩ : ∃ W0, W0 = w.alloc (.cells #[.slice ca cn cc, .slice ea en ec, .int .i64 kx] 31) := ⟨_, rfl⟩
  have HW0 : Hid (W0 = w.alloc (.cells #[.slice ca cn cc, .slice ea en ec, .int .i64 kx] 31)) := hW0
  have hb0 : Below w.heap.size w W0 := by rw [hW0]; exact (Below.refl _ _).alloc (Nat.le_refl _) _
  have HB0 : Hid (Below w.heap.size w W0) := hb0
  have hs0 : w.heap.size < W0.heap.size := by rw [hW0]; simp
  have hbx : BoxO 31 W0 w.heap.size (.slice ca cn cc) (.slice ea en ec) kx := by rw [hW0]; exact BoxO.new _ w _ _ _
  have HBx : Hid (∀ V, Below W0.heap.size W0 V → BoxO 31 V w.heap.size (.slice ca cn cc) (.slice ea en ec) kx) := fun V hV => hbx.below hV hbx.lt
  have HR : Hid (∀ V, Below W0.heap.size W0 V → RdO lo hi V ca cn cc ea en ec x) := fun V hV => (h.below hb0 hhi).below hV (by omega)
  have HRf : Hid (Below W0.heap.size W0 W0) := Below.refl _ _
  obtain ⟨z0, z1, z2⟩ := hbx.cells
  have HE : Hid (orderB x = ((decide (cn ≤ 7) && clsB x.cls) && ((decide (en ≤ 50) && edgB cn x.edg) && (decide (0 ≤ kx) && decide (kx ≤ 3))))) := by unfold Hid; rw [← hk]; exact order_eq h.cls.len h.edg.len
  have HBd : Hid (∀ j, j < cn → (x.cls.getD j []).length ≤ 1048576) := fun j hj => (hbd.c.2 j hj).1
  have hfc := h.cls.fits
  obtain ⟨cb, hcb⟩ : ∃ cb, cb = (decide (cn ≤ 7) && clsB x.cls) := ⟨_, rfl⟩
  obtain ⟨eb, heb⟩ : ∃ eb, eb = (decide (en ≤ 50) && edgB cn x.edg) := ⟨_, rfl⟩
  rw [← hcb, ← heb] at HE
  have HCb : Hid (cb = (decide (cn ≤ 7) && clsB x.cls)) := hcb
  have HEb : Hid (eb = (decide (en ≤ 50) && edgB cn x.edg)) := heb
  clear h hb0 hW0 hbx hcb heb hk hbd
  go_enter Tryd.func19, Tryd.ntmps19
  go_upto_region 1 with fail
  rw [← HW0.out]
  go_wp2_with fail
  refine (classesFit_any (HR.out _ HRf.out).cls (by omega) HBd.out).mono ?_
  rintro e w1 ⟨rfl, hb1⟩
  rw [← HCb.out]
  have HB1 : Hid (Below W0.heap.size W0 w1) := hb1
  have HF1 : Hid (Below w.heap.size w w1) := HB0.out.trans (hb1.mono HB0.out.size)
  have s1 := hb1.size
  clear z0 z1 z2 hb1
  obtain ⟨z0, z1, z2⟩ := (HBx.out _ HB1.out).cells
  cases cb
  · go_wp2_with fail
    go_ret
    exact ⟨rb (by rw [HE.out]; rfl), HF1.out⟩
  · go_wp2_with fail
    refine (edgesFit_any (cn : Int) (HR.out _ HB1.out).edg (by omega)).mono ?_
    rintro e w2 ⟨rfl, hb2⟩
    rw [← HEb.out]
    have HB2 : Hid (Below W0.heap.size W0 w2) := HB1.out.trans (hb2.mono s1)
    have HF2 : Hid (Below w.heap.size w w2) := HB0.out.trans (HB2.out.mono HB0.out.size)
    clear z0 z1 z2 hb2
    obtain ⟨z0, z1, z2⟩ := (HBx.out _ HB2.out).cells
    cases eb
    · go_wp2_with fail
      go_ret
      exact ⟨rb (by rw [HE.out]; rfl), HF2.out⟩
    · by_cases h0 : 0 ≤ kx
      · have hd0 : decide (0 ≤ kx) = true := decide_eq_true h0
        obtain ⟨d3, hd3⟩ : ∃ d, d = decide (kx ≤ 3) := ⟨_, rfl⟩
        have HD3 : Hid (orderB x = d3) := by rw [Hid, HE.out, hd0, hd3]; simp
        have hd3' := hd3.symm
        clear hd3
        go_wp2_with fail
        go_ret
        exact ⟨rb HD3.out.symm, HF2.out⟩
      · have hd0 : decide (0 ≤ kx) = false := decide_eq_false h0
        have HD : Hid (orderB x = false) := by rw [Hid, HE.out, hd0]; rfl
        go_wp2_with fail
        go_ret
        exact ⟨rb HD.out.symm, HF2.out⟩

end Go.Proofs.YtpedjcabapldgaaDoor
