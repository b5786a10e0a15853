/- A concept out of a constant text, as the laws of promises read it. -/
import Derived.Test.YtnmljalcndfjmaaReadS8
import Derived.Test.YtnmljalcndfjmaaNG20
import Derived.Test.YtnmljalcndfjmaaDrawCon
namespace Go.Proofs.Ytnmljalcndfjmaa
open Go.RowKit

theorem ownC_shapeS {base : Nat} {w : World} {d : Nat} {v : Value} {c : CN} {L : List (Addr × IntKind)} (h : OwnC base w d v c L) : ∃ k na nn nc ra rn rc ka kn kc, v = .agg #[.int .i64 k, .slice na nn nc, .slice ra rn rc, .slice ka kn kc] := by
  obtain ⟨na, nn, nc, ra, rn, rc, ka, kn, kc, e⟩ := h.ow.agg
  exact ⟨_, na, nn, nc, ra, rn, rc, ka, kn, kc, e⟩

set_option maxRecDepth 100000 in
set_option maxHeartbeats 1000000 in
theorem con_any (s : ByteArray) (hs : s.size ≤ 255) (w : World) :
    Calls Try.prog 21 #[.string s] w fun e w' => ∃ v, e = .returned v ∧ RdC w.heap.size w'.heap.size w' 6 v (conRead (numsOf s)).1 ∧ Below w.heap.size w w' := by
  obtain ⟨W0, HW0⟩ : ∃ W, Hid (W = w.alloc (.cells #[.int .i64 0, .slice none 0 0, .slice none 0 0, .slice none 0 0] 30)) := ⟨_, rfl⟩
  have HB0 : Hid (Below w.heap.size w W0) := by unfold Hid; rw [HW0.out]; exact (Below.refl _ _).alloc (Nat.le_refl _) _
  have HX0 : Hid (BoxC W0 w.heap.size (.int .i64 0) (.slice none 0 0) (.slice none 0 0) (.slice none 0 0)) := by unfold Hid; rw [HW0.out]; exact BoxC.new w _ _ _ _
  obtain ⟨Wx, HWx⟩ : ∃ W, Hid (W = Lib.bytesWorld W0 5 s) := ⟨_, rfl⟩
  obtain ⟨cp, HCP⟩ : ∃ cp, Hid (cp = grownCap W0 s.size 0 5) := ⟨_, rfl⟩
  have hcv : (convert 9 22 (.string s)).run Try.prog W0 = .ok (.slice (some ⟨W0.heap.size, 0, none⟩) s.size cp) Wx := by
    rw [HWx.out, HCP.out]
    exact Lib.run_convert_string_bytes W0 9 22 5 s Try.underlying9 Try.underlying22 Try.underlying5
  have hbx : Below W0.heap.size W0 Wx := by rw [HWx.out]; exact bytes_below W0 5 s
  have hsx : W0.heap.size < Wx.heap.size := by rw [HWx.out, Lib.bytesWorld_size]; omega
  have HRx : Hid (Rd 0 Wx.heap.size Wx (some ⟨W0.heap.size, 0, none⟩) s.size cp (numsOf s)) := by
    have hr : RolR Wx (.slice (some ⟨W0.heap.size, 0, none⟩) s.size cp) (numsOf s) W0.heap.size := by rw [HWx.out, HCP.out]; exact rol_conv W0 s hs
    obtain ⟨a', c', e, h3, _⟩ := hr
    simp only [Value.slice.injEq] at e
    obtain ⟨e1, e2, e3⟩ := e
    rw [← e1, ← e2, ← e3] at h3
    refine h3.rd (fun x hx => ?_)
    obtain ⟨j, hj, rfl⟩ := mem_leafB.1 hx
    exact ⟨Nat.zero_le _, hsx⟩
  have HBx : Hid (Below w.heap.size w Wx) := HB0.out.trans (hbx.mono HB0.out.size)
  have HXx : Hid (BoxC Wx w.heap.size (.int .i64 0) (.slice none 0 0) (.slice none 0 0) (.slice none 0 0)) := HX0.out.below hbx HX0.out.lt
  clear hbx
  go_enter Try.func21, Try.ntmps21
  go_upto_region 1 with fail
  rw [← HW0.out]
  go_wp2_with fail
  refine (specConRead_any _ _ _ (numsOf s) Wx HRx.out (Nat.le_refl _)).mono ?_
  rintro e w2 hA
  obtain ⟨v2, L2, rfl, hO2, hb2⟩ := hA
  obtain ⟨k, na, nn, nc, ra, rn, rc, ka, kn, kc, rfl⟩ := ownC_shapeS hO2
  obtain ⟨W3, HW3⟩ : ∃ W, Hid (W = w2.alloc (.cells #[.int .i64 k, .slice na nn nc, .slice ra rn rc, .slice ka kn kc] 30)) := ⟨_, rfl⟩
  have hb3 : Below w2.heap.size w2 W3 := by rw [HW3.out]; exact (Below.refl _ _).alloc (Nat.le_refl _) _
  have HY3 : Hid (BoxC W3 w2.heap.size (.int .i64 k) (.slice na nn nc) (.slice ra rn rc) (.slice ka kn kc)) := by unfold Hid; rw [HW3.out]; exact BoxC.new w2 _ _ _ _
  have HX3 : Hid (BoxC W3 w.heap.size (.int .i64 0) (.slice none 0 0) (.slice none 0 0) (.slice none 0 0)) := (HXx.out.below hb2 HXx.out.lt).below hb3 (Nat.lt_of_lt_of_le HXx.out.lt hb2.size)
  have HR3 : Hid (RdC Wx.heap.size w2.heap.size W3 6 (.agg #[.int .i64 k, .slice na nn nc, .slice ra rn rc, .slice ka kn kc]) (conRead (numsOf s)).1) := hO2.rd.below hb3 (Nat.le_refl _)
  have HB3 : Hid (Below w.heap.size w W3) := (HBx.out.trans (hb2.mono HBx.out.size)).trans (hb3.mono (Nat.le_trans HBx.out.size hb2.size))
  have hs3 : w2.heap.size < W3.heap.size := HY3.out.lt
  have hsx' : w.heap.size < Wx.heap.size := HXx.out.lt
  clear hO2 hb2 hb3
  obtain ⟨y0, y1, y2, y3⟩ := HY3.out.cells
  obtain ⟨z0, z1, z2, z3⟩ := HX3.out.cells
  have zf0 := HX3.out.frz 0
  have zf1 := HX3.out.frz 1
  have zf2 := HX3.out.frz 2
  have zf3 := HX3.out.frz 3
  try dsimp only
  go_upto_region 2 with fail
  rw [← HW3.out]
  go_wp2
  obtain ⟨s0, s1, s2, s3⟩ := (HX3.out.set4 (.int .i64 k) (.slice na nn nc) (.slice ra rn rc) (.slice ka kn kc)).cells
  refine bodyPost_ret (v := .agg #[.int .i64 k, .slice na nn nc, .slice ra rn rc, .slice ka kn kc]) (by simp [results, Try.results21, go_sem, s0, s1, s2, s3]) rfl ?_
  have hsm : Same Wx.heap.size w2.heap.size W3 ((((W3.setCell ⟨w.heap.size, 0, none⟩ (.int .i64 k)).setCell ⟨w.heap.size, 1, none⟩ (.slice na nn nc)).setCell ⟨w.heap.size, 2, none⟩ (.slice ra rn rc)).setCell ⟨w.heap.size, 3, none⟩ (.slice ka kn kc)) := fun q h1 h2 => heap_set4 _ _ _ _ _ (by omega)
  refine ⟨_, rfl, (HR3.out.same hsm).mono (by omega) (by simp; omega), ?_⟩
  exact (((HB3.out.setCell (p := ⟨w.heap.size, 0, none⟩) (Nat.le_refl _) _).setCell (p := ⟨w.heap.size, 1, none⟩) (Nat.le_refl _) _).setCell (p := ⟨w.heap.size, 2, none⟩) (Nat.le_refl _) _).setCell (p := ⟨w.heap.size, 3, none⟩) (Nat.le_refl _) _

end Go.Proofs.Ytnmljalcndfjmaa
