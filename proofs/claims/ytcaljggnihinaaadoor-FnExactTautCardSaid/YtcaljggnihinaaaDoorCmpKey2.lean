/- The numbers of a clause in an array, as the program lays them: a contract. -/
import Derived.Test.YtcaljggnihinaaaDoorCmpKey1
import Derived.Deep.WholeRow
namespace Go.Proofs.YtcaljggnihinaaaDoor
open Go.RowKit

/-- The array of which the first numbers are laid. -/
def keyA (h0 h1 h2 h3 h4 h5 n0 n1 n2 n3 n4 n5 n6 n7 n8 n9 n10 n11 : Int) : Nat → Array Value
  | 0 => #[.int .i64 h0, .int .i64 h1, .int .i64 h2, .int .i64 h3, .int .i64 n0, .int .i64 n1, .int .i64 n2, .int .i64 n3, .int .i64 h4, .int .i64 h5, .int .i64 0, .int .i64 0, .int .i64 0, .int .i64 0, .int .i64 0, .int .i64 0, .int .i64 0, .int .i64 0]
  | 1 => #[.int .i64 h0, .int .i64 h1, .int .i64 h2, .int .i64 h3, .int .i64 n0, .int .i64 n1, .int .i64 n2, .int .i64 n3, .int .i64 h4, .int .i64 h5, .int .i64 n4, .int .i64 n5, .int .i64 0, .int .i64 0, .int .i64 0, .int .i64 0, .int .i64 0, .int .i64 0]
  | 2 => #[.int .i64 h0, .int .i64 h1, .int .i64 h2, .int .i64 h3, .int .i64 n0, .int .i64 n1, .int .i64 n2, .int .i64 n3, .int .i64 h4, .int .i64 h5, .int .i64 n4, .int .i64 n5, .int .i64 n6, .int .i64 n7, .int .i64 0, .int .i64 0, .int .i64 0, .int .i64 0]
  | 3 => #[.int .i64 h0, .int .i64 h1, .int .i64 h2, .int .i64 h3, .int .i64 n0, .int .i64 n1, .int .i64 n2, .int .i64 n3, .int .i64 h4, .int .i64 h5, .int .i64 n4, .int .i64 n5, .int .i64 n6, .int .i64 n7, .int .i64 n8, .int .i64 n9, .int .i64 0, .int .i64 0]
  | _ => #[.int .i64 h0, .int .i64 h1, .int .i64 h2, .int .i64 h3, .int .i64 n0, .int .i64 n1, .int .i64 n2, .int .i64 n3, .int .i64 h4, .int .i64 h5, .int .i64 n4, .int .i64 n5, .int .i64 n6, .int .i64 n7, .int .i64 n8, .int .i64 n9, .int .i64 n10, .int .i64 n11]

theorem frz_of {W : World} {b : Nat} {c : Array Value} {t : TypeId} (h : W.heap[b]? = some (.cells c t (0, 0))) (o : Nat) : W.frozen? ⟨b, o, none⟩ = false := by simp [World.frozen?, h]
theorem cell_of {W : World} {b : Nat} {c : Array Value} {t : TypeId} (h : W.heap[b]? = some (.cells c t (0, 0))) (o : Nat) : W.cell? ⟨b, o, none⟩ = c[o]? := by simp [World.cell?, h]

theorem keyA_int (h0 h1 h2 h3 h4 h5 n0 n1 n2 n3 n4 n5 n6 n7 n8 n9 n10 n11 : Int) : ∀ v ∈ keyA h0 h1 h2 h3 h4 h5 n0 n1 n2 n3 n4 n5 n6 n7 n8 n9 n10 n11 4, ∃ z, v = Value.int .i64 z := by
  intro v hv
  have e : keyA h0 h1 h2 h3 h4 h5 n0 n1 n2 n3 n4 n5 n6 n7 n8 n9 n10 n11 4 = ([h0, h1, h2, h3, n0, n1, n2, n3, h4, h5, n4, n5, n6, n7, n8, n9, n10, n11].map (Value.int .i64)).toArray := rfl
  rw [e] at hv
  simp only [List.mem_toArray, List.mem_map] at hv
  obtain ⟨z, _, hz⟩ := hv
  exact ⟨z, hz.symm⟩

theorem Tryd.sizeKey : (Tryd.prog.info? 51).map (·.size) = some 18 := by kernel_rfl
theorem below_setRow {B : Nat} {w W : World} (h : Below B w W) {g : Nat} (hg : B ≤ g) (cs : Array Value) : Below B w (W.setRow g cs) :=
  ⟨h.os, h.tape, h.output, by rw [setRow_size]; exact h.size, fun b hb => (setRow_other W g b cs (by omega)).trans (h.block b hb)⟩

set_option maxRecDepth 100000 in
set_option maxHeartbeats 8000000 in
theorem joinKey_any (h0 h1 h2 h3 h4 h5 n0 n1 n2 n3 n4 n5 n6 n7 n8 n9 n10 n11 : Int) (w : World) :
    Calls Tryd.prog 40 #[.agg #[.int .i64 h0, .int .i64 h1, .int .i64 h2, .int .i64 h3, .int .i64 h4, .int .i64 h5], .agg #[.int .i64 n0, .int .i64 n1, .int .i64 n2, .int .i64 n3, .int .i64 n4, .int .i64 n5, .int .i64 n6, .int .i64 n7, .int .i64 n8, .int .i64 n9, .int .i64 n10, .int .i64 n11]] w fun e w' => e = .returned (.agg #[.int .i64 h0, .int .i64 h1, .int .i64 h2, .int .i64 h3, .int .i64 n0, .int .i64 n1, .int .i64 n2, .int .i64 n3, .int .i64 h4, .int .i64 h5, .int .i64 n4, .int .i64 n5, .int .i64 n6, .int .i64 n7, .int .i64 n8, .int .i64 n9, .int .i64 n10, .int .i64 n11]) ∧ Below w.heap.size w w' := by
  have hbuild : ∀ V : World, (Instr.build 51 #[(0, .int .i64 h0), (1, .int .i64 h1), (2, .int .i64 h2), (3, .int .i64 h3), (4, .int .i64 n0), (5, .int .i64 n1), (6, .int .i64 n2), (7, .int .i64 n3), (8, .int .i64 h4), (9, .int .i64 h5)]).run Tryd.prog V = .ok (.agg #[.int .i64 h0, .int .i64 h1, .int .i64 h2, .int .i64 h3, .int .i64 n0, .int .i64 n1, .int .i64 n2, .int .i64 n3, .int .i64 h4, .int .i64 h5, .int .i64 0, .int .i64 0, .int .i64 0, .int .i64 0, .int .i64 0, .int .i64 0, .int .i64 0, .int .i64 0]) V := fun V => run_build V _ _ _ (by kernel_rfl)
  obtain ⟨W, hW⟩ : ∃ W, W = ((w.alloc (.cells #[.int .i64 h0, .int .i64 h1, .int .i64 h2, .int .i64 h3, .int .i64 h4, .int .i64 h5] 74)).alloc (.cells #[.int .i64 n0, .int .i64 n1, .int .i64 n2, .int .i64 n3, .int .i64 n4, .int .i64 n5, .int .i64 n6, .int .i64 n7, .int .i64 n8, .int .i64 n9, .int .i64 n10, .int .i64 n11] 68)).alloc (.cells #[.int .i64 0, .int .i64 0, .int .i64 0, .int .i64 0, .int .i64 0, .int .i64 0, .int .i64 0, .int .i64 0, .int .i64 0, .int .i64 0, .int .i64 0, .int .i64 0, .int .i64 0, .int .i64 0, .int .i64 0, .int .i64 0, .int .i64 0, .int .i64 0] 51) := ⟨_, rfl⟩
  have HW : Hid (W = ((w.alloc (.cells #[.int .i64 h0, .int .i64 h1, .int .i64 h2, .int .i64 h3, .int .i64 h4, .int .i64 h5] 74)).alloc (.cells #[.int .i64 n0, .int .i64 n1, .int .i64 n2, .int .i64 n3, .int .i64 n4, .int .i64 n5, .int .i64 n6, .int .i64 n7, .int .i64 n8, .int .i64 n9, .int .i64 n10, .int .i64 n11] 68)).alloc (.cells #[.int .i64 0, .int .i64 0, .int .i64 0, .int .i64 0, .int .i64 0, .int .i64 0, .int .i64 0, .int .i64 0, .int .i64 0, .int .i64 0, .int .i64 0, .int .i64 0, .int .i64 0, .int .i64 0, .int .i64 0, .int .i64 0, .int .i64 0, .int .i64 0] 51)) := hW
  have hb0 : Below w.heap.size w W := by rw [hW]; exact (((Below.refl _ _).alloc (Nat.le_refl _) _).alloc (by simp) _).alloc (by simp; omega) _
  have HB0 : Hid (Below w.heap.size w W) := hb0
  have hs0 : W.heap.size = w.heap.size + 3 := by rw [hW]; simp
  have hh : W.heap[w.heap.size]? = some (.cells #[.int .i64 h0, .int .i64 h1, .int .i64 h2, .int .i64 h3, .int .i64 h4, .int .i64 h5] 74 (0, 0)) := by
    rw [hW]
    exact (((Below.refl (w.heap.size + 1) _).alloc (by simp) _).block _ (by simp)).trans ((((Below.refl (w.heap.size + 1) _).alloc (by simp) _).block _ (by simp)).trans (World.alloc_heap_new w _))
  have hm : BoxM W (w.heap.size + 1) n0 n1 n2 n3 n4 n5 n6 n7 n8 n9 n10 n11 := by
    have e := BoxM.new (w.alloc (.cells #[.int .i64 h0, .int .i64 h1, .int .i64 h2, .int .i64 h3, .int .i64 h4, .int .i64 h5] 74)) n0 n1 n2 n3 n4 n5 n6 n7 n8 n9 n10 n11
    rw [World.size_alloc] at e
    rw [hW]
    exact e.below ((Below.refl _ _).alloc (Nat.le_refl _) _) (by simp)
  have hr : W.heap[w.heap.size + 1 + 1]? = some (.cells #[.int .i64 0, .int .i64 0, .int .i64 0, .int .i64 0, .int .i64 0, .int .i64 0, .int .i64 0, .int .i64 0, .int .i64 0, .int .i64 0, .int .i64 0, .int .i64 0, .int .i64 0, .int .i64 0, .int .i64 0, .int .i64 0, .int .i64 0, .int .i64 0] 51 (0, 0)) := by
    have e := World.alloc_heap_new ((w.alloc (.cells #[.int .i64 h0, .int .i64 h1, .int .i64 h2, .int .i64 h3, .int .i64 h4, .int .i64 h5] 74)).alloc (.cells #[.int .i64 n0, .int .i64 n1, .int .i64 n2, .int .i64 n3, .int .i64 n4, .int .i64 n5, .int .i64 n6, .int .i64 n7, .int .i64 n8, .int .i64 n9, .int .i64 n10, .int .i64 n11] 68)) (.cells #[.int .i64 0, .int .i64 0, .int .i64 0, .int .i64 0, .int .i64 0, .int .i64 0, .int .i64 0, .int .i64 0, .int .i64 0, .int .i64 0, .int .i64 0, .int .i64 0, .int .i64 0, .int .i64 0, .int .i64 0, .int .i64 0, .int .i64 0, .int .i64 0] 51)
    rw [World.size_alloc, World.size_alloc] at e
    rw [hW]
    exact e
  have HH : Hid (∀ V, Below W.heap.size W V → V.heap[w.heap.size]? = some (.cells #[.int .i64 h0, .int .i64 h1, .int .i64 h2, .int .i64 h3, .int .i64 h4, .int .i64 h5] 74 (0, 0))) := fun V hV => (hV.block _ (by omega)).trans hh
  have HM : Hid (∀ V, Below W.heap.size W V → BoxM V (w.heap.size + 1) n0 n1 n2 n3 n4 n5 n6 n7 n8 n9 n10 n11) := fun V hV => hm.below hV (by omega)
  have HRs : Hid (∀ V, Below W.heap.size W V → V.heap[w.heap.size + 1 + 1]? = some (.cells #[.int .i64 0, .int .i64 0, .int .i64 0, .int .i64 0, .int .i64 0, .int .i64 0, .int .i64 0, .int .i64 0, .int .i64 0, .int .i64 0, .int .i64 0, .int .i64 0, .int .i64 0, .int .i64 0, .int .i64 0, .int .i64 0, .int .i64 0, .int .i64 0] 51 (0, 0))) := fun V hV => (hV.block _ (by omega)).trans hr
  obtain ⟨y0, y1, y2, y3, y4, y5, y6, y7, y8, y9, y10, y11⟩ := hm.cells
  have HS0 : Hid (W.heap.size = w.heap.size + 3) := hs0
  have hlt0 : w.heap.size + 1 + 1 < W.heap.size := by omega
  have hlt1 : w.heap.size + 1 < W.heap.size := by omega
  have hlt2 : w.heap.size < W.heap.size := by omega
  have HV1 : Hid (BoxP 29 ((W.alloc (.cells #[.int .i64 n0, .int .i64 n1] 29)).alloc (.cells #[.int .i64 n2, .int .i64 n3] 29)) W.heap.size n0 n1 ∧ BoxP 29 ((W.alloc (.cells #[.int .i64 n0, .int .i64 n1] 29)).alloc (.cells #[.int .i64 n2, .int .i64 n3] 29)) (W.heap.size + 1) n2 n3 ∧ Below W.heap.size W ((W.alloc (.cells #[.int .i64 n0, .int .i64 n1] 29)).alloc (.cells #[.int .i64 n2, .int .i64 n3] 29))) := by
    have e := BoxP.new 29 (W.alloc (.cells #[.int .i64 n0, .int .i64 n1] 29)) n2 n3
    rw [World.size_alloc] at e
    have e' := (BoxP.new 29 W n0 n1).below ((Below.refl (W.alloc (.cells #[.int .i64 n0, .int .i64 n1] 29)).heap.size (W.alloc (.cells #[.int .i64 n0, .int .i64 n1] 29))).alloc (Nat.le_refl _) (.cells #[.int .i64 n2, .int .i64 n3] 29)) (by simp)
    exact ⟨e', e, ((Below.refl _ _).alloc (Nat.le_refl _) _).alloc (by simp) _⟩
  have HV2 : Hid (BoxP 29 ((W.alloc (.cells #[.int .i64 n2, .int .i64 n3] 29)).alloc (.cells #[.int .i64 n0, .int .i64 n1] 29)) (W.heap.size + 1) n0 n1 ∧ BoxP 29 ((W.alloc (.cells #[.int .i64 n2, .int .i64 n3] 29)).alloc (.cells #[.int .i64 n0, .int .i64 n1] 29)) W.heap.size n2 n3 ∧ Below W.heap.size W ((W.alloc (.cells #[.int .i64 n2, .int .i64 n3] 29)).alloc (.cells #[.int .i64 n0, .int .i64 n1] 29))) := by
    have e := BoxP.new 29 (W.alloc (.cells #[.int .i64 n2, .int .i64 n3] 29)) n0 n1
    rw [World.size_alloc] at e
    have e' := (BoxP.new 29 W n2 n3).below ((Below.refl (W.alloc (.cells #[.int .i64 n2, .int .i64 n3] 29)).heap.size (W.alloc (.cells #[.int .i64 n2, .int .i64 n3] 29))).alloc (Nat.le_refl _) (.cells #[.int .i64 n0, .int .i64 n1] 29)) (by simp)
    exact ⟨e, e', ((Below.refl _ _).alloc (Nat.le_refl _) _).alloc (by simp) _⟩
  clear hW hb0 hh hm hr hs0
  go_enter Tryd.func40, Tryd.ntmps40
  go_upto_region 1 with fail
  rw [← HW.out]
  go_cut [5, 6] (fun v5 v6 V => ∃ p5 p6, v5 = .pointer (some ⟨p5, 0, none⟩) ∧ v6 = .pointer (some ⟨p6, 0, none⟩) ∧ BoxP 29 V p5 n0 n1 ∧ BoxP 29 V p6 n2 n3 ∧ Below W.heap.size W V)
  case first =>
    first | go_region | fail
    all_goals
      go_wp2_with fail
      go_meet
      case rel => first | exact ⟨W.heap.size, W.heap.size + 1, rfl, rfl, HV1.out.1, HV1.out.2.1, HV1.out.2.2.drew⟩ | exact ⟨W.heap.size + 1, W.heap.size, rfl, rfl, HV2.out.1, HV2.out.2.1, HV2.out.2.2.drew⟩
  case rest =>
    obtain ⟨p5, p6, hv5, hv6, hx5, hx6, hbv⟩ := hcut
    subst hv5 hv6
    obtain ⟨Vc, hVc⟩ : ∃ V, V = wc := ⟨_, rfl⟩
    subst hVc
    have HBv : Hid (Below W.heap.size W Vc) := hbv
    have hsv := hbv.size
    obtain ⟨x0, x1⟩ := hx5.cells
    obtain ⟨x2, x3⟩ := hx6.cells
    have hh := HH.out _ hbv
    have c0 : Vc.cell? ⟨w.heap.size, 0, none⟩ = some (.int .i64 h0) := by rw [cell_of hh]; rfl
    have c1 : Vc.cell? ⟨w.heap.size, 1, none⟩ = some (.int .i64 h1) := by rw [cell_of hh]; rfl
    have c2 : Vc.cell? ⟨w.heap.size, 2, none⟩ = some (.int .i64 h2) := by rw [cell_of hh]; rfl
    have c3 : Vc.cell? ⟨w.heap.size, 3, none⟩ = some (.int .i64 h3) := by rw [cell_of hh]; rfl
    have c4 : Vc.cell? ⟨w.heap.size, 4, none⟩ = some (.int .i64 h4) := by rw [cell_of hh]; rfl
    have c5 : Vc.cell? ⟨w.heap.size, 5, none⟩ = some (.int .i64 h5) := by rw [cell_of hh]; rfl
    obtain ⟨Vk, hVk⟩ : ∃ V, V = Vc.alloc (.cells #[.int .i64 h0, .int .i64 h1, .int .i64 h2, .int .i64 h3, .int .i64 n0, .int .i64 n1, .int .i64 n2, .int .i64 n3, .int .i64 h4, .int .i64 h5, .int .i64 0, .int .i64 0, .int .i64 0, .int .i64 0, .int .i64 0, .int .i64 0, .int .i64 0, .int .i64 0] 51) := ⟨_, rfl⟩
    have HVk : Hid (Vk = Vc.alloc (.cells #[.int .i64 h0, .int .i64 h1, .int .i64 h2, .int .i64 h3, .int .i64 n0, .int .i64 n1, .int .i64 n2, .int .i64 n3, .int .i64 h4, .int .i64 h5, .int .i64 0, .int .i64 0, .int .i64 0, .int .i64 0, .int .i64 0, .int .i64 0, .int .i64 0, .int .i64 0] 51)) := hVk
    have HBvk : Hid (Below Vc.heap.size Vc Vk) := by unfold Hid; rw [hVk]; exact (Below.refl _ _).alloc (Nat.le_refl _) _
    have HKk : Hid (Vk.heap[Vc.heap.size]? = some (.cells (keyA h0 h1 h2 h3 h4 h5 n0 n1 n2 n3 n4 n5 n6 n7 n8 n9 n10 n11 0) 51 (0, 0))) := by unfold Hid; rw [hVk]; exact World.alloc_heap_new Vc _
    clear hbv hx5 hx6 hh hVk y0 y1 y2 y3 y4 y5 y6 y7 y8 y9 y10 y11
    go_upto_region 3 with fail
    rw [← HVk.out]
    go_wp2_with fail
    go_loopw [37] (fun i wr => ∃ j : Nat, j ≤ 4 ∧ i = .int .i64 j ∧ wr.heap[Vc.heap.size]? = some (.cells (keyA h0 h1 h2 h3 h4 h5 n0 n1 n2 n3 n4 n5 n6 n7 n8 n9 n10 n11 j) 51 (0, 0)) ∧ Below Vc.heap.size Vc wr) (fun i _ => 4 - (intOf i).toNat)
    case atStart => exact ⟨0, by omega, rfl, HKk.out, HBvk.out⟩
    case round =>
      obtain ⟨j, hj, rfl, hkey, hbel⟩ := hrel
      have HBe : Hid (Below Vc.heap.size Vc wr) := hbel
      have hBW := HBv.out.trans (hbel.mono hsv)
      obtain ⟨y0, y1, y2, y3, y4, y5, y6, y7, y8, y9, y10, y11⟩ := (HM.out _ hBW).cells
      have hszr := hbel.size
      clear hbel hBW
      match j, hj with
      | 0, _ =>
        have hkey' : wr.heap[Vc.heap.size]? = some (.cells #[.int .i64 h0, .int .i64 h1, .int .i64 h2, .int .i64 h3, .int .i64 n0, .int .i64 n1, .int .i64 n2, .int .i64 n3, .int .i64 h4, .int .i64 h5, .int .i64 0, .int .i64 0, .int .i64 0, .int .i64 0, .int .i64 0, .int .i64 0, .int .i64 0, .int .i64 0] 51 (0, 0)) := hkey
        obtain ⟨Wp, hWp⟩ : ∃ Wp, Wp = wr.alloc (.cells #[.int .i64 n4, .int .i64 n5] 29) := ⟨_, rfl⟩
        have HWp : Hid (Wp = wr.alloc (.cells #[.int .i64 n4, .int .i64 n5] 29)) := hWp
        have hbp : Below wr.heap.size wr Wp := by rw [hWp]; exact (Below.refl _ _).alloc (Nat.le_refl _) _
        have hkw : Vc.heap.size < wr.heap.size := (Array.getElem?_eq_some_iff.1 hkey').1
        have hkp : Wp.heap[Vc.heap.size]? = some (.cells #[.int .i64 h0, .int .i64 h1, .int .i64 h2, .int .i64 h3, .int .i64 n0, .int .i64 n1, .int .i64 n2, .int .i64 n3, .int .i64 h4, .int .i64 h5, .int .i64 0, .int .i64 0, .int .i64 0, .int .i64 0, .int .i64 0, .int .i64 0, .int .i64 0, .int .i64 0] 51 (0, 0)) := (hbp.block _ hkw).trans hkey'
        have hpp : BoxP 29 Wp wr.heap.size n4 n5 := by rw [hWp]; exact BoxP.new _ wr _ _
        obtain ⟨x0, x1⟩ := hpp.cells
        have k1 : Wp.cell? ⟨Vc.heap.size, 10, none⟩ = some (.int .i64 0) := by rw [cell_of hkp]; rfl
        have k2 : Wp.cell? ⟨Vc.heap.size, 11, none⟩ = some (.int .i64 0) := by rw [cell_of hkp]; rfl
        have f1 := frz_of hkp 10
        have f2 := frz_of hkp 11
        have hkn : wr.heap.size ≠ Vc.heap.size := by omega
        have HK' : Hid (((Wp.drew.setCell ⟨Vc.heap.size, 10, none⟩ (.int .i64 n4)).setCell ⟨Vc.heap.size, 11, none⟩ (.int .i64 n5)).heap[Vc.heap.size]? = some (.cells (keyA h0 h1 h2 h3 h4 h5 n0 n1 n2 n3 n4 n5 n6 n7 n8 n9 n10 n11 1) 51 (0, 0))) :=
          heap_setCell_same _ Vc.heap.size 11 _ _ _ (heap_setCell_same Wp.drew Vc.heap.size 10 _ _ _ hkp)
        have HBk : Hid (Below Vc.heap.size Vc ((Wp.drew.setCell ⟨Vc.heap.size, 10, none⟩ (.int .i64 n4)).setCell ⟨Vc.heap.size, 11, none⟩ (.int .i64 n5))) := ((HBe.out.trans (hbp.mono (by omega))).drew.setCell (Nat.le_refl _) _).setCell (Nat.le_refl _) _
        clear hkey hkey' hWp hbp hkp hpp
        go_wp2_with fail
        rw [← HWp.out]
        first | go_region | fail
        all_goals
          go_wp2_with fail
          go_roundw
          case rel => exact ⟨1, by omega, by go_num, HK'.out, HBk.out⟩
          case measure => simp [intOf]
      | 1, _ =>
        have hkey' : wr.heap[Vc.heap.size]? = some (.cells #[.int .i64 h0, .int .i64 h1, .int .i64 h2, .int .i64 h3, .int .i64 n0, .int .i64 n1, .int .i64 n2, .int .i64 n3, .int .i64 h4, .int .i64 h5, .int .i64 n4, .int .i64 n5, .int .i64 0, .int .i64 0, .int .i64 0, .int .i64 0, .int .i64 0, .int .i64 0] 51 (0, 0)) := hkey
        obtain ⟨Wp, hWp⟩ : ∃ Wp, Wp = wr.alloc (.cells #[.int .i64 n6, .int .i64 n7] 29) := ⟨_, rfl⟩
        have HWp : Hid (Wp = wr.alloc (.cells #[.int .i64 n6, .int .i64 n7] 29)) := hWp
        have hbp : Below wr.heap.size wr Wp := by rw [hWp]; exact (Below.refl _ _).alloc (Nat.le_refl _) _
        have hkw : Vc.heap.size < wr.heap.size := (Array.getElem?_eq_some_iff.1 hkey').1
        have hkp : Wp.heap[Vc.heap.size]? = some (.cells #[.int .i64 h0, .int .i64 h1, .int .i64 h2, .int .i64 h3, .int .i64 n0, .int .i64 n1, .int .i64 n2, .int .i64 n3, .int .i64 h4, .int .i64 h5, .int .i64 n4, .int .i64 n5, .int .i64 0, .int .i64 0, .int .i64 0, .int .i64 0, .int .i64 0, .int .i64 0] 51 (0, 0)) := (hbp.block _ hkw).trans hkey'
        have hpp : BoxP 29 Wp wr.heap.size n6 n7 := by rw [hWp]; exact BoxP.new _ wr _ _
        obtain ⟨x0, x1⟩ := hpp.cells
        have k1 : Wp.cell? ⟨Vc.heap.size, 12, none⟩ = some (.int .i64 0) := by rw [cell_of hkp]; rfl
        have k2 : Wp.cell? ⟨Vc.heap.size, 13, none⟩ = some (.int .i64 0) := by rw [cell_of hkp]; rfl
        have f1 := frz_of hkp 12
        have f2 := frz_of hkp 13
        have hkn : wr.heap.size ≠ Vc.heap.size := by omega
        have HK' : Hid (((Wp.drew.setCell ⟨Vc.heap.size, 12, none⟩ (.int .i64 n6)).setCell ⟨Vc.heap.size, 13, none⟩ (.int .i64 n7)).heap[Vc.heap.size]? = some (.cells (keyA h0 h1 h2 h3 h4 h5 n0 n1 n2 n3 n4 n5 n6 n7 n8 n9 n10 n11 2) 51 (0, 0))) :=
          heap_setCell_same _ Vc.heap.size 13 _ _ _ (heap_setCell_same Wp.drew Vc.heap.size 12 _ _ _ hkp)
        have HBk : Hid (Below Vc.heap.size Vc ((Wp.drew.setCell ⟨Vc.heap.size, 12, none⟩ (.int .i64 n6)).setCell ⟨Vc.heap.size, 13, none⟩ (.int .i64 n7))) := ((HBe.out.trans (hbp.mono (by omega))).drew.setCell (Nat.le_refl _) _).setCell (Nat.le_refl _) _
        clear hkey hkey' hWp hbp hkp hpp
        go_wp2_with fail
        rw [← HWp.out]
        first | go_region | fail
        all_goals
          go_wp2_with fail
          go_roundw
          case rel => exact ⟨2, by omega, by go_num, HK'.out, HBk.out⟩
          case measure => simp [intOf]
      | 2, _ =>
        have hkey' : wr.heap[Vc.heap.size]? = some (.cells #[.int .i64 h0, .int .i64 h1, .int .i64 h2, .int .i64 h3, .int .i64 n0, .int .i64 n1, .int .i64 n2, .int .i64 n3, .int .i64 h4, .int .i64 h5, .int .i64 n4, .int .i64 n5, .int .i64 n6, .int .i64 n7, .int .i64 0, .int .i64 0, .int .i64 0, .int .i64 0] 51 (0, 0)) := hkey
        obtain ⟨Wp, hWp⟩ : ∃ Wp, Wp = wr.alloc (.cells #[.int .i64 n8, .int .i64 n9] 29) := ⟨_, rfl⟩
        have HWp : Hid (Wp = wr.alloc (.cells #[.int .i64 n8, .int .i64 n9] 29)) := hWp
        have hbp : Below wr.heap.size wr Wp := by rw [hWp]; exact (Below.refl _ _).alloc (Nat.le_refl _) _
        have hkw : Vc.heap.size < wr.heap.size := (Array.getElem?_eq_some_iff.1 hkey').1
        have hkp : Wp.heap[Vc.heap.size]? = some (.cells #[.int .i64 h0, .int .i64 h1, .int .i64 h2, .int .i64 h3, .int .i64 n0, .int .i64 n1, .int .i64 n2, .int .i64 n3, .int .i64 h4, .int .i64 h5, .int .i64 n4, .int .i64 n5, .int .i64 n6, .int .i64 n7, .int .i64 0, .int .i64 0, .int .i64 0, .int .i64 0] 51 (0, 0)) := (hbp.block _ hkw).trans hkey'
        have hpp : BoxP 29 Wp wr.heap.size n8 n9 := by rw [hWp]; exact BoxP.new _ wr _ _
        obtain ⟨x0, x1⟩ := hpp.cells
        have k1 : Wp.cell? ⟨Vc.heap.size, 14, none⟩ = some (.int .i64 0) := by rw [cell_of hkp]; rfl
        have k2 : Wp.cell? ⟨Vc.heap.size, 15, none⟩ = some (.int .i64 0) := by rw [cell_of hkp]; rfl
        have f1 := frz_of hkp 14
        have f2 := frz_of hkp 15
        have hkn : wr.heap.size ≠ Vc.heap.size := by omega
        have HK' : Hid (((Wp.drew.setCell ⟨Vc.heap.size, 14, none⟩ (.int .i64 n8)).setCell ⟨Vc.heap.size, 15, none⟩ (.int .i64 n9)).heap[Vc.heap.size]? = some (.cells (keyA h0 h1 h2 h3 h4 h5 n0 n1 n2 n3 n4 n5 n6 n7 n8 n9 n10 n11 3) 51 (0, 0))) :=
          heap_setCell_same _ Vc.heap.size 15 _ _ _ (heap_setCell_same Wp.drew Vc.heap.size 14 _ _ _ hkp)
        have HBk : Hid (Below Vc.heap.size Vc ((Wp.drew.setCell ⟨Vc.heap.size, 14, none⟩ (.int .i64 n8)).setCell ⟨Vc.heap.size, 15, none⟩ (.int .i64 n9))) := ((HBe.out.trans (hbp.mono (by omega))).drew.setCell (Nat.le_refl _) _).setCell (Nat.le_refl _) _
        clear hkey hkey' hWp hbp hkp hpp
        go_wp2_with fail
        rw [← HWp.out]
        first | go_region | fail
        all_goals
          go_wp2_with fail
          go_roundw
          case rel => exact ⟨3, by omega, by go_num, HK'.out, HBk.out⟩
          case measure => simp [intOf]
      | 3, _ =>
        have hkey' : wr.heap[Vc.heap.size]? = some (.cells #[.int .i64 h0, .int .i64 h1, .int .i64 h2, .int .i64 h3, .int .i64 n0, .int .i64 n1, .int .i64 n2, .int .i64 n3, .int .i64 h4, .int .i64 h5, .int .i64 n4, .int .i64 n5, .int .i64 n6, .int .i64 n7, .int .i64 n8, .int .i64 n9, .int .i64 0, .int .i64 0] 51 (0, 0)) := hkey
        obtain ⟨Wp, hWp⟩ : ∃ Wp, Wp = wr.alloc (.cells #[.int .i64 n10, .int .i64 n11] 29) := ⟨_, rfl⟩
        have HWp : Hid (Wp = wr.alloc (.cells #[.int .i64 n10, .int .i64 n11] 29)) := hWp
        have hbp : Below wr.heap.size wr Wp := by rw [hWp]; exact (Below.refl _ _).alloc (Nat.le_refl _) _
        have hkw : Vc.heap.size < wr.heap.size := (Array.getElem?_eq_some_iff.1 hkey').1
        have hkp : Wp.heap[Vc.heap.size]? = some (.cells #[.int .i64 h0, .int .i64 h1, .int .i64 h2, .int .i64 h3, .int .i64 n0, .int .i64 n1, .int .i64 n2, .int .i64 n3, .int .i64 h4, .int .i64 h5, .int .i64 n4, .int .i64 n5, .int .i64 n6, .int .i64 n7, .int .i64 n8, .int .i64 n9, .int .i64 0, .int .i64 0] 51 (0, 0)) := (hbp.block _ hkw).trans hkey'
        have hpp : BoxP 29 Wp wr.heap.size n10 n11 := by rw [hWp]; exact BoxP.new _ wr _ _
        obtain ⟨x0, x1⟩ := hpp.cells
        have k1 : Wp.cell? ⟨Vc.heap.size, 16, none⟩ = some (.int .i64 0) := by rw [cell_of hkp]; rfl
        have k2 : Wp.cell? ⟨Vc.heap.size, 17, none⟩ = some (.int .i64 0) := by rw [cell_of hkp]; rfl
        have f1 := frz_of hkp 16
        have f2 := frz_of hkp 17
        have hkn : wr.heap.size ≠ Vc.heap.size := by omega
        have HK' : Hid (((Wp.drew.setCell ⟨Vc.heap.size, 16, none⟩ (.int .i64 n10)).setCell ⟨Vc.heap.size, 17, none⟩ (.int .i64 n11)).heap[Vc.heap.size]? = some (.cells (keyA h0 h1 h2 h3 h4 h5 n0 n1 n2 n3 n4 n5 n6 n7 n8 n9 n10 n11 4) 51 (0, 0))) :=
          heap_setCell_same _ Vc.heap.size 17 _ _ _ (heap_setCell_same Wp.drew Vc.heap.size 16 _ _ _ hkp)
        have HBk : Hid (Below Vc.heap.size Vc ((Wp.drew.setCell ⟨Vc.heap.size, 16, none⟩ (.int .i64 n10)).setCell ⟨Vc.heap.size, 17, none⟩ (.int .i64 n11))) := ((HBe.out.trans (hbp.mono (by omega))).drew.setCell (Nat.le_refl _) _).setCell (Nat.le_refl _) _
        clear hkey hkey' hWp hbp hkp hpp
        go_wp2_with fail
        rw [← HWp.out]
        first | go_region | fail
        all_goals
          go_wp2_with fail
          go_roundw
          case rel => exact ⟨4, by omega, by go_num, HK'.out, HBk.out⟩
          case measure => simp [intOf]
      | 4, _ =>
        have hres := HRs.out _ (HBv.out.trans (HBe.out.mono hsv))
        obtain ⟨cs, hcs⟩ : ∃ cs, cs = keyA h0 h1 h2 h3 h4 h5 n0 n1 n2 n3 n4 n5 n6 n7 n8 n9 n10 n11 4 := ⟨_, rfl⟩
        obtain ⟨zs, hzs⟩ : ∃ zs : Array Value, zs = #[.int .i64 0, .int .i64 0, .int .i64 0, .int .i64 0, .int .i64 0, .int .i64 0, .int .i64 0, .int .i64 0, .int .i64 0, .int .i64 0, .int .i64 0, .int .i64 0, .int .i64 0, .int .i64 0, .int .i64 0, .int .i64 0, .int .i64 0, .int .i64 0] := ⟨_, rfl⟩
        rw [← hcs] at hkey
        rw [← hzs] at hres
        have hsz : (Tryd.prog.info? 51).map (·.size) = some cs.size := by rw [hcs]; exact Tryd.sizeKey
        have hzo : zs.size = cs.size := by rw [hzs, hcs]; rfl
        have hone : cs.all (·.oneCell') = true := by
          rw [hcs, Array.all_eq_true_iff_forall_mem]
          intro v hv
          obtain ⟨z, rfl⟩ := keyA_int h0 h1 h2 h3 h4 h5 n0 n1 n2 n3 n4 n5 n6 n7 n8 n9 n10 n11 v hv
          rfl
        have HCs : Hid (cs = keyA h0 h1 h2 h3 h4 h5 n0 n1 n2 n3 n4 n5 n6 n7 n8 n9 n10 n11 4) := hcs
        have HBf : Hid (Below w.heap.size w (wr.setRow (w.heap.size + 1 + 1) cs)) := below_setRow ((HB0.out.trans (HBv.out.mono HB0.out.size)).trans (HBe.out.mono (Nat.le_trans (by omega) hsv))) (by omega) cs
        have HFin : Hid ((wr.setRow (w.heap.size + 1 + 1) cs).heap[w.heap.size + 1 + 1]? = some (.cells cs 51 (0, 0))) := setRow_heap _ _ _ _ _ _ hres
        have HKey : Hid (wr.heap[Vc.heap.size]? = some (.cells cs 51 (0, 0))) := hkey
        have HRes : Hid (wr.heap[w.heap.size + 1 + 1]? = some (.cells zs 51 (0, 0))) := hres
        have HSz : Hid ((Tryd.prog.info? 51).map (·.size) = some cs.size) := hsz
        clear hkey hres hcs hzs hsz y0 y1 y2 y3 y4 y5 y6 y7 y8 y9 y10 y11
        go_wp2_with (first | (refine wpList_load_row rfl 51 (.tmp 7) rfl Vc.heap.size rfl 51 cs (0, 0) _ HKey.out Tryd.underlying51 rfl HSz.out ?_) | (refine wpList_store_row rfl 51 (.tmp 4) (.tmp 55) rfl (w.heap.size + 1 + 1) cs rfl rfl 51 zs HRes.out HSz.out hzo hone ?_))
        refine bodyPost_ret (v := .agg cs) (results_cell_row rfl _ _ (w.heap.size + 1 + 1) 51 cs (0, 0) _ rfl HFin.out Tryd.underlying51 rfl HSz.out) rfl ⟨by rw [HCs.out]; rfl, HBf.out⟩

end Go.Proofs.YtcaljggnihinaaaDoor
