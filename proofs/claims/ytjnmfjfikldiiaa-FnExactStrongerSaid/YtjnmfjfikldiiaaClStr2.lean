/- One part within one of six; six within six: a contract of each function. -/
import Derived.Test.YtjnmfjfikldiiaaClStr1
namespace Go.Proofs.Ytjnmfjfikldiiaa
open Go.RowKit

/-- A row of six parts in a box. -/
def BoxR (W : World) (q : Nat) (l : List (Int × Int)) : Prop := W.heap[q]? = some (.cells (cells12 l) 157 (0, 0))
theorem BoxR.new (W : World) (l : List (Int × Int)) : BoxR (W.alloc (.cells (cells12 l) 157)) W.heap.size l := World.alloc_heap_new W _
theorem BoxR.below {W W' : World} {q B : Nat} {l : List (Int × Int)} (h : BoxR W q l) (hb : Below B W W') (hB : q < B) : BoxR W' q l := (hb.block q hB).trans h
theorem BoxR.lt {W : World} {q : Nat} {l : List (Int × Int)} (h : BoxR W q l) : q < W.heap.size := (Array.getElem?_eq_some_iff.1 h).1
theorem BoxR.rd {W : World} {q : Nat} {l : List (Int × Int)} (h : BoxR W q l) (hl : l.length = 6) : RP 0 W.heap.size W (some ⟨q, 0, none⟩) 6 6 l := by
  refine ⟨hl, by omega, .inr ⟨q, 0, rfl, Nat.zero_le _, h.lt, fun i hi => ?_⟩⟩
  unfold BoxR at h
  match i, hi with
  | 0, _ => simp [World.cell?, h, cells12]
  | 1, _ => simp [World.cell?, h, cells12]
  | 2, _ => simp [World.cell?, h, cells12]
  | 3, _ => simp [World.cell?, h, cells12]
  | 4, _ => simp [World.cell?, h, cells12]
  | 5, _ => simp [World.cell?, h, cells12]
theorem BoxR.cells {W : World} {q : Nat} {l : List (Int × Int)} (h : BoxR W q l) (i : Nat) : W.cell? ⟨q, i, none⟩ = (cells12 l)[i]? := by
  unfold BoxR at h
  simp [World.cell?, h]

set_option maxRecDepth 100000 in
set_option maxHeartbeats 2000000 in
theorem withinOne_any (p n : Int) (l : List (Int × Int)) (hl : l.length = 6) (w : World) :
    Calls Try.prog 122 #[.agg #[.int .i64 p, .int .i64 n], .agg (cells12 l)] w fun e w' => e = .returned (.bool (l.any (fun q => inB (p, n) q))) ∧ Below w.heap.size w w' := by
  obtain ⟨W, hW⟩ : ∃ W, W = (w.alloc (.cells #[.int .i64 p, .int .i64 n] 24)).alloc (.cells (cells12 l) 157) := ⟨_, rfl⟩
  have HW : Hid (W = (w.alloc (.cells #[.int .i64 p, .int .i64 n] 24)).alloc (.cells (cells12 l) 157)) := hW
  have hb0 : Below w.heap.size w W := by rw [hW]; exact ((Below.refl _ _).alloc (Nat.le_refl _) _).alloc (by simp) _
  have HB0 : Hid (Below w.heap.size w W) := hb0
  have hbx : BoxP 24 W w.heap.size p n := by rw [hW]; exact (BoxP.new _ w _ _).below ((Below.refl _ _).alloc (Nat.le_refl _) _) (by simp)
  have hby : BoxR W (w.heap.size + 1) l := by
    have e := BoxR.new (w.alloc (.cells #[.int .i64 p, .int .i64 n] 24)) l
    rw [World.size_alloc] at e
    rw [hW]; exact e
  have HBx : Hid (∀ V, Below W.heap.size W V → BoxP 24 V w.heap.size p n) := fun V hV => hbx.below hV hbx.lt
  have HRd : Hid (RP 0 W.heap.size W (some ⟨w.heap.size + 1, 0, none⟩) 6 6 l) := hby.rd hl
  clear hb0 hbx hby hW
  go_enter Try.func122, Try.ntmps122
  go_upto_region 1 with fail
  rw [← HW.out]
  go_wp2_with fail
  refine (hasPart_any 178 #[.pointer (some ⟨w.heap.size, 0, none⟩)] (fun q => inB (p, n) q) (some ⟨w.heap.size + 1, 0, none⟩) 6 6 l W HRd.out (Nat.le_refl _) Try.call178 (fun q m V hV => inClosure_any p n q m w.heap.size V (HBx.out V hV))).mono ?_
  rintro e w1 ⟨rfl, hb1⟩
  have H1 : Hid (Below w.heap.size w w1) := HB0.out.trans (hb1.mono HB0.out.size)
  clear hb1
  go_wp2_with fail
  go_ret
  exact ⟨rfl, H1.out⟩

def BoxM (W : World) (q : Nat) (n0 n1 n2 n3 n4 n5 n6 n7 n8 n9 n10 n11 : Int) : Prop := W.heap[q]? = some (.cells #[.int .i64 n0, .int .i64 n1, .int .i64 n2, .int .i64 n3, .int .i64 n4, .int .i64 n5, .int .i64 n6, .int .i64 n7, .int .i64 n8, .int .i64 n9, .int .i64 n10, .int .i64 n11] 157 (0, 0))
theorem BoxM.new (W : World) (n0 n1 n2 n3 n4 n5 n6 n7 n8 n9 n10 n11 : Int) : BoxM (W.alloc (.cells #[.int .i64 n0, .int .i64 n1, .int .i64 n2, .int .i64 n3, .int .i64 n4, .int .i64 n5, .int .i64 n6, .int .i64 n7, .int .i64 n8, .int .i64 n9, .int .i64 n10, .int .i64 n11] 157)) W.heap.size n0 n1 n2 n3 n4 n5 n6 n7 n8 n9 n10 n11 := World.alloc_heap_new W _
theorem BoxM.below {W W' : World} {q B : Nat} {n0 n1 n2 n3 n4 n5 n6 n7 n8 n9 n10 n11 : Int} (h : BoxM W q n0 n1 n2 n3 n4 n5 n6 n7 n8 n9 n10 n11) (hb : Below B W W') (hB : q < B) : BoxM W' q n0 n1 n2 n3 n4 n5 n6 n7 n8 n9 n10 n11 := (hb.block q hB).trans h
theorem BoxM.lt {W : World} {q : Nat} {n0 n1 n2 n3 n4 n5 n6 n7 n8 n9 n10 n11 : Int} (h : BoxM W q n0 n1 n2 n3 n4 n5 n6 n7 n8 n9 n10 n11) : q < W.heap.size := (Array.getElem?_eq_some_iff.1 h).1
theorem BoxM.cells {W : World} {q : Nat} {n0 n1 n2 n3 n4 n5 n6 n7 n8 n9 n10 n11 : Int} (h : BoxM W q n0 n1 n2 n3 n4 n5 n6 n7 n8 n9 n10 n11) : W.cell? ⟨q, 0, none⟩ = some (.int .i64 n0) ∧ W.cell? ⟨q, 1, none⟩ = some (.int .i64 n1) ∧ W.cell? ⟨q, 2, none⟩ = some (.int .i64 n2) ∧ W.cell? ⟨q, 3, none⟩ = some (.int .i64 n3) ∧ W.cell? ⟨q, 4, none⟩ = some (.int .i64 n4) ∧ W.cell? ⟨q, 5, none⟩ = some (.int .i64 n5) ∧ W.cell? ⟨q, 6, none⟩ = some (.int .i64 n6) ∧ W.cell? ⟨q, 7, none⟩ = some (.int .i64 n7) ∧ W.cell? ⟨q, 8, none⟩ = some (.int .i64 n8) ∧ W.cell? ⟨q, 9, none⟩ = some (.int .i64 n9) ∧ W.cell? ⟨q, 10, none⟩ = some (.int .i64 n10) ∧ W.cell? ⟨q, 11, none⟩ = some (.int .i64 n11) := by
  unfold BoxM at h
  refine ⟨?_, ?_, ?_, ?_, ?_, ?_, ?_, ?_, ?_, ?_, ?_, ?_⟩ <;> simp [World.cell?, h]

set_option maxRecDepth 100000 in
theorem idx_0 (n0 n1 n2 n3 n4 n5 n6 n7 n8 n9 n10 n11 : Int) (V : World) : (Instr.index 157 (.agg #[.int .i64 n0, .int .i64 n1, .int .i64 n2, .int .i64 n3, .int .i64 n4, .int .i64 n5, .int .i64 n6, .int .i64 n7, .int .i64 n8, .int .i64 n9, .int .i64 n10, .int .i64 n11]) (.int .i64 0)).run Try.prog V = .ok (.agg #[.int .i64 n0, .int .i64 n1]) V := by
  obtain ⟨i, hi⟩ := info_of_underlying Try.underlying24
  have hc : Try.prog.cellsOf 24 = 2 := by kernel_rfl
  simp [Instr.index, run_underlying Try.underlying157, asIntOf, run_sizeOf V hi, hc, go_sem]

set_option maxRecDepth 100000 in
theorem idx_1 (n0 n1 n2 n3 n4 n5 n6 n7 n8 n9 n10 n11 : Int) (V : World) : (Instr.index 157 (.agg #[.int .i64 n0, .int .i64 n1, .int .i64 n2, .int .i64 n3, .int .i64 n4, .int .i64 n5, .int .i64 n6, .int .i64 n7, .int .i64 n8, .int .i64 n9, .int .i64 n10, .int .i64 n11]) (.int .i64 1)).run Try.prog V = .ok (.agg #[.int .i64 n2, .int .i64 n3]) V := by
  obtain ⟨i, hi⟩ := info_of_underlying Try.underlying24
  have hc : Try.prog.cellsOf 24 = 2 := by kernel_rfl
  simp [Instr.index, run_underlying Try.underlying157, asIntOf, run_sizeOf V hi, hc, go_sem]

set_option maxRecDepth 100000 in
theorem idx_2 (n0 n1 n2 n3 n4 n5 n6 n7 n8 n9 n10 n11 : Int) (V : World) : (Instr.index 157 (.agg #[.int .i64 n0, .int .i64 n1, .int .i64 n2, .int .i64 n3, .int .i64 n4, .int .i64 n5, .int .i64 n6, .int .i64 n7, .int .i64 n8, .int .i64 n9, .int .i64 n10, .int .i64 n11]) (.int .i64 2)).run Try.prog V = .ok (.agg #[.int .i64 n4, .int .i64 n5]) V := by
  obtain ⟨i, hi⟩ := info_of_underlying Try.underlying24
  have hc : Try.prog.cellsOf 24 = 2 := by kernel_rfl
  simp [Instr.index, run_underlying Try.underlying157, asIntOf, run_sizeOf V hi, hc, go_sem]

set_option maxRecDepth 100000 in
theorem idx_3 (n0 n1 n2 n3 n4 n5 n6 n7 n8 n9 n10 n11 : Int) (V : World) : (Instr.index 157 (.agg #[.int .i64 n0, .int .i64 n1, .int .i64 n2, .int .i64 n3, .int .i64 n4, .int .i64 n5, .int .i64 n6, .int .i64 n7, .int .i64 n8, .int .i64 n9, .int .i64 n10, .int .i64 n11]) (.int .i64 3)).run Try.prog V = .ok (.agg #[.int .i64 n6, .int .i64 n7]) V := by
  obtain ⟨i, hi⟩ := info_of_underlying Try.underlying24
  have hc : Try.prog.cellsOf 24 = 2 := by kernel_rfl
  simp [Instr.index, run_underlying Try.underlying157, asIntOf, run_sizeOf V hi, hc, go_sem]

set_option maxRecDepth 100000 in
theorem idx_4 (n0 n1 n2 n3 n4 n5 n6 n7 n8 n9 n10 n11 : Int) (V : World) : (Instr.index 157 (.agg #[.int .i64 n0, .int .i64 n1, .int .i64 n2, .int .i64 n3, .int .i64 n4, .int .i64 n5, .int .i64 n6, .int .i64 n7, .int .i64 n8, .int .i64 n9, .int .i64 n10, .int .i64 n11]) (.int .i64 4)).run Try.prog V = .ok (.agg #[.int .i64 n8, .int .i64 n9]) V := by
  obtain ⟨i, hi⟩ := info_of_underlying Try.underlying24
  have hc : Try.prog.cellsOf 24 = 2 := by kernel_rfl
  simp [Instr.index, run_underlying Try.underlying157, asIntOf, run_sizeOf V hi, hc, go_sem]

set_option maxRecDepth 100000 in
theorem idx_5 (n0 n1 n2 n3 n4 n5 n6 n7 n8 n9 n10 n11 : Int) (V : World) : (Instr.index 157 (.agg #[.int .i64 n0, .int .i64 n1, .int .i64 n2, .int .i64 n3, .int .i64 n4, .int .i64 n5, .int .i64 n6, .int .i64 n7, .int .i64 n8, .int .i64 n9, .int .i64 n10, .int .i64 n11]) (.int .i64 5)).run Try.prog V = .ok (.agg #[.int .i64 n10, .int .i64 n11]) V := by
  obtain ⟨i, hi⟩ := info_of_underlying Try.underlying24
  have hc : Try.prog.cellsOf 24 = 2 := by kernel_rfl
  simp [Instr.index, run_underlying Try.underlying157, asIntOf, run_sizeOf V hi, hc, go_sem]

def preB (n0 n1 n2 n3 n4 n5 n6 n7 n8 n9 n10 n11 m0 m1 m2 m3 m4 m5 m6 m7 m8 m9 m10 m11 : Int) : Nat → Prop
  | 0 => True
  | 1 => inB (n0, n1) (m0, m1) = true
  | 2 => inB (n0, n1) (m0, m1) = true ∧ inB (n2, n3) (m2, m3) = true
  | 3 => inB (n0, n1) (m0, m1) = true ∧ inB (n2, n3) (m2, m3) = true ∧ inB (n4, n5) (m4, m5) = true
  | 4 => inB (n0, n1) (m0, m1) = true ∧ inB (n2, n3) (m2, m3) = true ∧ inB (n4, n5) (m4, m5) = true ∧ inB (n6, n7) (m6, m7) = true
  | 5 => inB (n0, n1) (m0, m1) = true ∧ inB (n2, n3) (m2, m3) = true ∧ inB (n4, n5) (m4, m5) = true ∧ inB (n6, n7) (m6, m7) = true ∧ inB (n8, n9) (m8, m9) = true
  | _ => inB (n0, n1) (m0, m1) = true ∧ inB (n2, n3) (m2, m3) = true ∧ inB (n4, n5) (m4, m5) = true ∧ inB (n6, n7) (m6, m7) = true ∧ inB (n8, n9) (m8, m9) = true ∧ inB (n10, n11) (m10, m11) = true

set_option maxRecDepth 100000 in
set_option maxHeartbeats 4000000 in
theorem withinEach_12 (n0 n1 n2 n3 n4 n5 n6 n7 n8 n9 n10 n11 m0 m1 m2 m3 m4 m5 m6 m7 m8 m9 m10 m11 : Int) (w : World) :
    Calls Try.prog 124 #[.agg #[.int .i64 n0, .int .i64 n1, .int .i64 n2, .int .i64 n3, .int .i64 n4, .int .i64 n5, .int .i64 n6, .int .i64 n7, .int .i64 n8, .int .i64 n9, .int .i64 n10, .int .i64 n11], .agg #[.int .i64 m0, .int .i64 m1, .int .i64 m2, .int .i64 m3, .int .i64 m4, .int .i64 m5, .int .i64 m6, .int .i64 m7, .int .i64 m8, .int .i64 m9, .int .i64 m10, .int .i64 m11]] w fun e w' => e = .returned (.bool (inB (n0, n1) (m0, m1) && (inB (n2, n3) (m2, m3) && (inB (n4, n5) (m4, m5) && (inB (n6, n7) (m6, m7) && (inB (n8, n9) (m8, m9) && inB (n10, n11) (m10, m11))))))) ∧ Below w.heap.size w w' := by
  obtain ⟨W, hW⟩ : ∃ W, W = (w.alloc (.cells #[.int .i64 n0, .int .i64 n1, .int .i64 n2, .int .i64 n3, .int .i64 n4, .int .i64 n5, .int .i64 n6, .int .i64 n7, .int .i64 n8, .int .i64 n9, .int .i64 n10, .int .i64 n11] 157)).alloc (.cells #[.int .i64 m0, .int .i64 m1, .int .i64 m2, .int .i64 m3, .int .i64 m4, .int .i64 m5, .int .i64 m6, .int .i64 m7, .int .i64 m8, .int .i64 m9, .int .i64 m10, .int .i64 m11] 157) := ⟨_, rfl⟩
  have HW : Hid (W = (w.alloc (.cells #[.int .i64 n0, .int .i64 n1, .int .i64 n2, .int .i64 n3, .int .i64 n4, .int .i64 n5, .int .i64 n6, .int .i64 n7, .int .i64 n8, .int .i64 n9, .int .i64 n10, .int .i64 n11] 157)).alloc (.cells #[.int .i64 m0, .int .i64 m1, .int .i64 m2, .int .i64 m3, .int .i64 m4, .int .i64 m5, .int .i64 m6, .int .i64 m7, .int .i64 m8, .int .i64 m9, .int .i64 m10, .int .i64 m11] 157)) := hW
  have hb0 : Below w.heap.size w W := by rw [hW]; exact ((Below.refl _ _).alloc (Nat.le_refl _) _).alloc (by simp) _
  have HB0 : Hid (Below w.heap.size w W) := hb0
  have hbx : BoxM W w.heap.size n0 n1 n2 n3 n4 n5 n6 n7 n8 n9 n10 n11 := by rw [hW]; exact (BoxM.new w n0 n1 n2 n3 n4 n5 n6 n7 n8 n9 n10 n11).below ((Below.refl _ _).alloc (Nat.le_refl _) _) (by simp)
  have hby : BoxM W (w.heap.size + 1) m0 m1 m2 m3 m4 m5 m6 m7 m8 m9 m10 m11 := by
    have e := BoxM.new (w.alloc (.cells #[.int .i64 n0, .int .i64 n1, .int .i64 n2, .int .i64 n3, .int .i64 n4, .int .i64 n5, .int .i64 n6, .int .i64 n7, .int .i64 n8, .int .i64 n9, .int .i64 n10, .int .i64 n11] 157)) m0 m1 m2 m3 m4 m5 m6 m7 m8 m9 m10 m11
    rw [World.size_alloc] at e
    rw [hW]; exact e
  have hs0 : w.heap.size + 1 < W.heap.size := hby.lt
  have HBy : Hid (∀ V, Below W.heap.size W V → BoxM V (w.heap.size + 1) m0 m1 m2 m3 m4 m5 m6 m7 m8 m9 m10 m11) := fun V hV => hby.below hV hby.lt
  obtain ⟨z0, z1, z2, z3, z4, z5, z6, z7, z8, z9, z10, z11⟩ := hbx.cells
  clear hb0 hbx hby hW
  obtain ⟨A, hA⟩ : ∃ A, A = (inB (n0, n1) (m0, m1) && (inB (n2, n3) (m2, m3) && (inB (n4, n5) (m4, m5) && (inB (n6, n7) (m6, m7) && (inB (n8, n9) (m8, m9) && inB (n10, n11) (m10, m11)))))) := ⟨_, rfl⟩
  rw [← hA]
  have HA : Hid (A = (inB (n0, n1) (m0, m1) && (inB (n2, n3) (m2, m3) && (inB (n4, n5) (m4, m5) && (inB (n6, n7) (m6, m7) && (inB (n8, n9) (m8, m9) && inB (n10, n11) (m10, m11))))))) := hA
  clear hA
  go_enter Try.func124, Try.ntmps124
  go_upto_region 1 with fail
  rw [← HW.out]
  go_wp2_with fail
  clear z0 z1 z2 z3 z4 z5 z6 z7 z8 z9 z10 z11
  go_loopw [8] (fun i wr => ∃ k : Nat, k ≤ 6 ∧ i = .int .i64 k ∧ preB n0 n1 n2 n3 n4 n5 n6 n7 n8 n9 n10 n11 m0 m1 m2 m3 m4 m5 m6 m7 m8 m9 m10 m11 k ∧ Below W.heap.size W wr) (fun i _ => 6 - (intOf i).toNat)
  case atStart => exact ⟨0, by omega, rfl, trivial, Below.refl _ _⟩
  case round =>
    obtain ⟨k, hk, rfl, hpre, hbel⟩ := hrel
    have HB : Hid (Below W.heap.size W wr) := hbel
    have hsz := hbel.size
    obtain ⟨y0, y1, y2, y3, y4, y5, y6, y7, y8, y9, y10, y11⟩ := (HBy.out _ hbel).cells
    match k, hk with
    | 0, _ =>
      have HPre : Hid (True) := hpre
      obtain ⟨d, hd⟩ : ∃ d, d = inB (n0, n1) (m0, m1) := ⟨_, rfl⟩
      have HD : Hid (d = inB (n0, n1) (m0, m1)) := hd
      obtain ⟨Wa, hWa⟩ : ∃ Wa, Wa = wr.alloc (.cells #[.int .i64 n0, .int .i64 n1] 24) := ⟨_, rfl⟩
      have HWa : Hid (Wa = wr.alloc (.cells #[.int .i64 n0, .int .i64 n1] 24)) := hWa
      have HBa : Hid (Below W.heap.size W Wa) := by unfold Hid; rw [hWa]; exact hbel.alloc hsz _
      have hbp : BoxP 24 Wa wr.heap.size n0 n1 := by rw [hWa]; exact BoxP.new _ wr _ _
      obtain ⟨x0, x1⟩ := hbp.cells
      clear y0 y1 y2 y3 y4 y5 y6 y7 y8 y9 y10 y11 hWa hbp
      obtain ⟨y0, y1, y2, y3, y4, y5, y6, y7, y8, y9, y10, y11⟩ := (HBy.out _ HBa.out).cells
      have hidx := fun V => idx_0 n0 n1 n2 n3 n4 n5 n6 n7 n8 n9 n10 n11 V
      clear hpre hbel hd
      cases d with
      | true =>
        have HNx : Hid (inB (n0, n1) (m0, m1) = true) := by
          have h1 := HPre.out
          have h2 := HD.out.symm
          unfold Hid
          exact h2
        go_wp2_with fail
        rw [← HWa.out]
        first | go_region_with (go_at_call 179; refine (partWithin_any n0 n1 m0 m1 _).mono ?_; rintro e w' ⟨rfl, hbe⟩; rw [← HD.out]) | fail
        all_goals
          have HBn : Hid (Below W.heap.size W w') := HBa.out.drew.trans (hbe.mono HBa.out.size)
          clear hbe
          go_wp2_with fail
          go_roundw
          case rel => exact ⟨1, by omega, by go_num, HNx.out, HBn.out⟩
          case measure => simp [intOf]
      | false =>
        have HF : Hid (A = false) := by
          have h2 := HD.out.symm
          unfold Hid
          rw [HA.out]
          simp [h2]
        go_wp2_with fail
        rw [← HWa.out]
        first | go_region_with (go_at_call 179; refine (partWithin_any n0 n1 m0 m1 _).mono ?_; rintro e w' ⟨rfl, hbe⟩; rw [← HD.out]) | fail
        all_goals
          have HBn : Hid (Below W.heap.size W w') := HBa.out.drew.trans (hbe.mono HBa.out.size)
          clear hbe
          go_wp2_with fail
          go_ret
          exact ⟨rb HF.out.symm, HB0.out.trans (HBn.out.mono HB0.out.size)⟩
    | 1, _ =>
      have HPre : Hid (inB (n0, n1) (m0, m1) = true) := hpre
      obtain ⟨d, hd⟩ : ∃ d, d = inB (n2, n3) (m2, m3) := ⟨_, rfl⟩
      have HD : Hid (d = inB (n2, n3) (m2, m3)) := hd
      obtain ⟨Wa, hWa⟩ : ∃ Wa, Wa = wr.alloc (.cells #[.int .i64 n2, .int .i64 n3] 24) := ⟨_, rfl⟩
      have HWa : Hid (Wa = wr.alloc (.cells #[.int .i64 n2, .int .i64 n3] 24)) := hWa
      have HBa : Hid (Below W.heap.size W Wa) := by unfold Hid; rw [hWa]; exact hbel.alloc hsz _
      have hbp : BoxP 24 Wa wr.heap.size n2 n3 := by rw [hWa]; exact BoxP.new _ wr _ _
      obtain ⟨x0, x1⟩ := hbp.cells
      clear y0 y1 y2 y3 y4 y5 y6 y7 y8 y9 y10 y11 hWa hbp
      obtain ⟨y0, y1, y2, y3, y4, y5, y6, y7, y8, y9, y10, y11⟩ := (HBy.out _ HBa.out).cells
      have hidx := fun V => idx_1 n0 n1 n2 n3 n4 n5 n6 n7 n8 n9 n10 n11 V
      clear hpre hbel hd
      cases d with
      | true =>
        have HNx : Hid (inB (n0, n1) (m0, m1) = true ∧ inB (n2, n3) (m2, m3) = true) := by
          have h1 := HPre.out
          have h2 := HD.out.symm
          unfold Hid
          exact ⟨h1, h2⟩
        go_wp2_with fail
        rw [← HWa.out]
        first | go_region_with (go_at_call 179; refine (partWithin_any n2 n3 m2 m3 _).mono ?_; rintro e w' ⟨rfl, hbe⟩; rw [← HD.out]) | fail
        all_goals
          have HBn : Hid (Below W.heap.size W w') := HBa.out.drew.trans (hbe.mono HBa.out.size)
          clear hbe
          go_wp2_with fail
          go_roundw
          case rel => exact ⟨2, by omega, by go_num, HNx.out, HBn.out⟩
          case measure => simp [intOf]
      | false =>
        have HF : Hid (A = false) := by
          have h1 := HPre.out
          have h2 := HD.out.symm
          unfold Hid
          rw [HA.out]
          simp [h1, h2]
        go_wp2_with fail
        rw [← HWa.out]
        first | go_region_with (go_at_call 179; refine (partWithin_any n2 n3 m2 m3 _).mono ?_; rintro e w' ⟨rfl, hbe⟩; rw [← HD.out]) | fail
        all_goals
          have HBn : Hid (Below W.heap.size W w') := HBa.out.drew.trans (hbe.mono HBa.out.size)
          clear hbe
          go_wp2_with fail
          go_ret
          exact ⟨rb HF.out.symm, HB0.out.trans (HBn.out.mono HB0.out.size)⟩
    | 2, _ =>
      have HPre : Hid (inB (n0, n1) (m0, m1) = true ∧ inB (n2, n3) (m2, m3) = true) := hpre
      obtain ⟨d, hd⟩ : ∃ d, d = inB (n4, n5) (m4, m5) := ⟨_, rfl⟩
      have HD : Hid (d = inB (n4, n5) (m4, m5)) := hd
      obtain ⟨Wa, hWa⟩ : ∃ Wa, Wa = wr.alloc (.cells #[.int .i64 n4, .int .i64 n5] 24) := ⟨_, rfl⟩
      have HWa : Hid (Wa = wr.alloc (.cells #[.int .i64 n4, .int .i64 n5] 24)) := hWa
      have HBa : Hid (Below W.heap.size W Wa) := by unfold Hid; rw [hWa]; exact hbel.alloc hsz _
      have hbp : BoxP 24 Wa wr.heap.size n4 n5 := by rw [hWa]; exact BoxP.new _ wr _ _
      obtain ⟨x0, x1⟩ := hbp.cells
      clear y0 y1 y2 y3 y4 y5 y6 y7 y8 y9 y10 y11 hWa hbp
      obtain ⟨y0, y1, y2, y3, y4, y5, y6, y7, y8, y9, y10, y11⟩ := (HBy.out _ HBa.out).cells
      have hidx := fun V => idx_2 n0 n1 n2 n3 n4 n5 n6 n7 n8 n9 n10 n11 V
      clear hpre hbel hd
      cases d with
      | true =>
        have HNx : Hid (inB (n0, n1) (m0, m1) = true ∧ inB (n2, n3) (m2, m3) = true ∧ inB (n4, n5) (m4, m5) = true) := by
          have h1 := HPre.out
          have h2 := HD.out.symm
          unfold Hid
          obtain ⟨e0, e1⟩ := h1; exact ⟨e0, e1, h2⟩
        go_wp2_with fail
        rw [← HWa.out]
        first | go_region_with (go_at_call 179; refine (partWithin_any n4 n5 m4 m5 _).mono ?_; rintro e w' ⟨rfl, hbe⟩; rw [← HD.out]) | fail
        all_goals
          have HBn : Hid (Below W.heap.size W w') := HBa.out.drew.trans (hbe.mono HBa.out.size)
          clear hbe
          go_wp2_with fail
          go_roundw
          case rel => exact ⟨3, by omega, by go_num, HNx.out, HBn.out⟩
          case measure => simp [intOf]
      | false =>
        have HF : Hid (A = false) := by
          have h1 := HPre.out
          have h2 := HD.out.symm
          unfold Hid
          rw [HA.out]
          simp [h1, h2]
        go_wp2_with fail
        rw [← HWa.out]
        first | go_region_with (go_at_call 179; refine (partWithin_any n4 n5 m4 m5 _).mono ?_; rintro e w' ⟨rfl, hbe⟩; rw [← HD.out]) | fail
        all_goals
          have HBn : Hid (Below W.heap.size W w') := HBa.out.drew.trans (hbe.mono HBa.out.size)
          clear hbe
          go_wp2_with fail
          go_ret
          exact ⟨rb HF.out.symm, HB0.out.trans (HBn.out.mono HB0.out.size)⟩
    | 3, _ =>
      have HPre : Hid (inB (n0, n1) (m0, m1) = true ∧ inB (n2, n3) (m2, m3) = true ∧ inB (n4, n5) (m4, m5) = true) := hpre
      obtain ⟨d, hd⟩ : ∃ d, d = inB (n6, n7) (m6, m7) := ⟨_, rfl⟩
      have HD : Hid (d = inB (n6, n7) (m6, m7)) := hd
      obtain ⟨Wa, hWa⟩ : ∃ Wa, Wa = wr.alloc (.cells #[.int .i64 n6, .int .i64 n7] 24) := ⟨_, rfl⟩
      have HWa : Hid (Wa = wr.alloc (.cells #[.int .i64 n6, .int .i64 n7] 24)) := hWa
      have HBa : Hid (Below W.heap.size W Wa) := by unfold Hid; rw [hWa]; exact hbel.alloc hsz _
      have hbp : BoxP 24 Wa wr.heap.size n6 n7 := by rw [hWa]; exact BoxP.new _ wr _ _
      obtain ⟨x0, x1⟩ := hbp.cells
      clear y0 y1 y2 y3 y4 y5 y6 y7 y8 y9 y10 y11 hWa hbp
      obtain ⟨y0, y1, y2, y3, y4, y5, y6, y7, y8, y9, y10, y11⟩ := (HBy.out _ HBa.out).cells
      have hidx := fun V => idx_3 n0 n1 n2 n3 n4 n5 n6 n7 n8 n9 n10 n11 V
      clear hpre hbel hd
      cases d with
      | true =>
        have HNx : Hid (inB (n0, n1) (m0, m1) = true ∧ inB (n2, n3) (m2, m3) = true ∧ inB (n4, n5) (m4, m5) = true ∧ inB (n6, n7) (m6, m7) = true) := by
          have h1 := HPre.out
          have h2 := HD.out.symm
          unfold Hid
          obtain ⟨e0, e1, e2⟩ := h1; exact ⟨e0, e1, e2, h2⟩
        go_wp2_with fail
        rw [← HWa.out]
        first | go_region_with (go_at_call 179; refine (partWithin_any n6 n7 m6 m7 _).mono ?_; rintro e w' ⟨rfl, hbe⟩; rw [← HD.out]) | fail
        all_goals
          have HBn : Hid (Below W.heap.size W w') := HBa.out.drew.trans (hbe.mono HBa.out.size)
          clear hbe
          go_wp2_with fail
          go_roundw
          case rel => exact ⟨4, by omega, by go_num, HNx.out, HBn.out⟩
          case measure => simp [intOf]
      | false =>
        have HF : Hid (A = false) := by
          have h1 := HPre.out
          have h2 := HD.out.symm
          unfold Hid
          rw [HA.out]
          simp [h1, h2]
        go_wp2_with fail
        rw [← HWa.out]
        first | go_region_with (go_at_call 179; refine (partWithin_any n6 n7 m6 m7 _).mono ?_; rintro e w' ⟨rfl, hbe⟩; rw [← HD.out]) | fail
        all_goals
          have HBn : Hid (Below W.heap.size W w') := HBa.out.drew.trans (hbe.mono HBa.out.size)
          clear hbe
          go_wp2_with fail
          go_ret
          exact ⟨rb HF.out.symm, HB0.out.trans (HBn.out.mono HB0.out.size)⟩
    | 4, _ =>
      have HPre : Hid (inB (n0, n1) (m0, m1) = true ∧ inB (n2, n3) (m2, m3) = true ∧ inB (n4, n5) (m4, m5) = true ∧ inB (n6, n7) (m6, m7) = true) := hpre
      obtain ⟨d, hd⟩ : ∃ d, d = inB (n8, n9) (m8, m9) := ⟨_, rfl⟩
      have HD : Hid (d = inB (n8, n9) (m8, m9)) := hd
      obtain ⟨Wa, hWa⟩ : ∃ Wa, Wa = wr.alloc (.cells #[.int .i64 n8, .int .i64 n9] 24) := ⟨_, rfl⟩
      have HWa : Hid (Wa = wr.alloc (.cells #[.int .i64 n8, .int .i64 n9] 24)) := hWa
      have HBa : Hid (Below W.heap.size W Wa) := by unfold Hid; rw [hWa]; exact hbel.alloc hsz _
      have hbp : BoxP 24 Wa wr.heap.size n8 n9 := by rw [hWa]; exact BoxP.new _ wr _ _
      obtain ⟨x0, x1⟩ := hbp.cells
      clear y0 y1 y2 y3 y4 y5 y6 y7 y8 y9 y10 y11 hWa hbp
      obtain ⟨y0, y1, y2, y3, y4, y5, y6, y7, y8, y9, y10, y11⟩ := (HBy.out _ HBa.out).cells
      have hidx := fun V => idx_4 n0 n1 n2 n3 n4 n5 n6 n7 n8 n9 n10 n11 V
      clear hpre hbel hd
      cases d with
      | true =>
        have HNx : Hid (inB (n0, n1) (m0, m1) = true ∧ inB (n2, n3) (m2, m3) = true ∧ inB (n4, n5) (m4, m5) = true ∧ inB (n6, n7) (m6, m7) = true ∧ inB (n8, n9) (m8, m9) = true) := by
          have h1 := HPre.out
          have h2 := HD.out.symm
          unfold Hid
          obtain ⟨e0, e1, e2, e3⟩ := h1; exact ⟨e0, e1, e2, e3, h2⟩
        go_wp2_with fail
        rw [← HWa.out]
        first | go_region_with (go_at_call 179; refine (partWithin_any n8 n9 m8 m9 _).mono ?_; rintro e w' ⟨rfl, hbe⟩; rw [← HD.out]) | fail
        all_goals
          have HBn : Hid (Below W.heap.size W w') := HBa.out.drew.trans (hbe.mono HBa.out.size)
          clear hbe
          go_wp2_with fail
          go_roundw
          case rel => exact ⟨5, by omega, by go_num, HNx.out, HBn.out⟩
          case measure => simp [intOf]
      | false =>
        have HF : Hid (A = false) := by
          have h1 := HPre.out
          have h2 := HD.out.symm
          unfold Hid
          rw [HA.out]
          simp [h1, h2]
        go_wp2_with fail
        rw [← HWa.out]
        first | go_region_with (go_at_call 179; refine (partWithin_any n8 n9 m8 m9 _).mono ?_; rintro e w' ⟨rfl, hbe⟩; rw [← HD.out]) | fail
        all_goals
          have HBn : Hid (Below W.heap.size W w') := HBa.out.drew.trans (hbe.mono HBa.out.size)
          clear hbe
          go_wp2_with fail
          go_ret
          exact ⟨rb HF.out.symm, HB0.out.trans (HBn.out.mono HB0.out.size)⟩
    | 5, _ =>
      have HPre : Hid (inB (n0, n1) (m0, m1) = true ∧ inB (n2, n3) (m2, m3) = true ∧ inB (n4, n5) (m4, m5) = true ∧ inB (n6, n7) (m6, m7) = true ∧ inB (n8, n9) (m8, m9) = true) := hpre
      obtain ⟨d, hd⟩ : ∃ d, d = inB (n10, n11) (m10, m11) := ⟨_, rfl⟩
      have HD : Hid (d = inB (n10, n11) (m10, m11)) := hd
      obtain ⟨Wa, hWa⟩ : ∃ Wa, Wa = wr.alloc (.cells #[.int .i64 n10, .int .i64 n11] 24) := ⟨_, rfl⟩
      have HWa : Hid (Wa = wr.alloc (.cells #[.int .i64 n10, .int .i64 n11] 24)) := hWa
      have HBa : Hid (Below W.heap.size W Wa) := by unfold Hid; rw [hWa]; exact hbel.alloc hsz _
      have hbp : BoxP 24 Wa wr.heap.size n10 n11 := by rw [hWa]; exact BoxP.new _ wr _ _
      obtain ⟨x0, x1⟩ := hbp.cells
      clear y0 y1 y2 y3 y4 y5 y6 y7 y8 y9 y10 y11 hWa hbp
      obtain ⟨y0, y1, y2, y3, y4, y5, y6, y7, y8, y9, y10, y11⟩ := (HBy.out _ HBa.out).cells
      have hidx := fun V => idx_5 n0 n1 n2 n3 n4 n5 n6 n7 n8 n9 n10 n11 V
      clear hpre hbel hd
      cases d with
      | true =>
        have HNx : Hid (inB (n0, n1) (m0, m1) = true ∧ inB (n2, n3) (m2, m3) = true ∧ inB (n4, n5) (m4, m5) = true ∧ inB (n6, n7) (m6, m7) = true ∧ inB (n8, n9) (m8, m9) = true ∧ inB (n10, n11) (m10, m11) = true) := by
          have h1 := HPre.out
          have h2 := HD.out.symm
          unfold Hid
          obtain ⟨e0, e1, e2, e3, e4⟩ := h1; exact ⟨e0, e1, e2, e3, e4, h2⟩
        go_wp2_with fail
        rw [← HWa.out]
        first | go_region_with (go_at_call 179; refine (partWithin_any n10 n11 m10 m11 _).mono ?_; rintro e w' ⟨rfl, hbe⟩; rw [← HD.out]) | fail
        all_goals
          have HBn : Hid (Below W.heap.size W w') := HBa.out.drew.trans (hbe.mono HBa.out.size)
          clear hbe
          go_wp2_with fail
          go_roundw
          case rel => exact ⟨6, by omega, by go_num, HNx.out, HBn.out⟩
          case measure => simp [intOf]
      | false =>
        have HF : Hid (A = false) := by
          have h1 := HPre.out
          have h2 := HD.out.symm
          unfold Hid
          rw [HA.out]
          simp [h1, h2]
        go_wp2_with fail
        rw [← HWa.out]
        first | go_region_with (go_at_call 179; refine (partWithin_any n10 n11 m10 m11 _).mono ?_; rintro e w' ⟨rfl, hbe⟩; rw [← HD.out]) | fail
        all_goals
          have HBn : Hid (Below W.heap.size W w') := HBa.out.drew.trans (hbe.mono HBa.out.size)
          clear hbe
          go_wp2_with fail
          go_ret
          exact ⟨rb HF.out.symm, HB0.out.trans (HBn.out.mono HB0.out.size)⟩
    | 6, _ =>
      have HT : Hid (A = true) := by
        have h1 : inB (n0, n1) (m0, m1) = true ∧ inB (n2, n3) (m2, m3) = true ∧ inB (n4, n5) (m4, m5) = true ∧ inB (n6, n7) (m6, m7) = true ∧ inB (n8, n9) (m8, m9) = true ∧ inB (n10, n11) (m10, m11) = true := hpre
        unfold Hid
        rw [HA.out]
        simp [h1]
      clear hpre hbel
      go_wp2_with fail
      go_ret
      exact ⟨rb HT.out.symm, HB0.out.trans (HB.out.mono HB0.out.size)⟩

end Go.Proofs.Ytjnmfjfikldiiaa
