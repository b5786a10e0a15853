/- A drawn world: some world, all that it holds in memory of the call's own. -/
import Derived.Test.YtnmljalcndfjmaaGreatDrawWd0
import Derived.Deep.RegionHeld3
import Derived.Deep.AppendLies
namespace Go.Proofs.YtnmljalcndfjmaaGreat
open Go.RowKit

set_option maxRecDepth 100000 in
set_option maxHeartbeats 8000000 in
theorem l4draw_any {w : World} {B : Nat} {a : Option Addr} {n cap : Nat} {zs : List Int} {hi : Nat} (c : Cur w B a n cap zs hi) :
    Calls Tryz.prog 73 #[.pointer (some ⟨B, 0, none⟩)] w (DwP B a n cap zs hi w) := by
  have hB := c.lt
  obtain ⟨W0, HW0⟩ : ∃ W, Hid (W = w.alloc (.cells #[.int .i64 0, (.slice none 0 0), (.slice none 0 0), (.slice none 0 0), (.slice none 0 0), (.slice none 0 0), (.slice none 0 0)] 27)) := ⟨_, rfl⟩
  have HM0 : Hid (DwM B a n cap zs hi w W0) := by
    have hb0 : Below w.heap.size w W0 := by rw [HW0.out]; exact (Below.refl _ _).alloc (Nat.le_refl _) _
    exact ⟨c.of (hb0.mono hB), Bt.of_below hb0, by rw [HW0.out]; exact BoxW.new _ w _ _ _ _ _ _ _⟩
  clear c
  go_enter Tryz.func73, Tryz.ntmps73
  go_upto_region 1 with fail
  rw [← HW0.out]
  go_wp2_with fail
  refine (l1Below_any HM0.out.cur 3 (by omega)).mono ?_
  rintro e w1 ⟨x, rfl, ⟨hx0, hx1⟩, hc1, ho1⟩
  have HM1 : Hid (DwM B a n cap zs hi w w1) := HM0.out.only hB hc1 ho1
  obtain ⟨N, hN, hN1, hN3⟩ : ∃ N : Nat, IntKind.i64.wrap (1 + x) = (N : Int) ∧ 1 ≤ N ∧ N ≤ 3 := ⟨(1 + x).toNat, by rw [wrap64_id (by omega)]; omega, by omega, by omega⟩
  clear hc1 ho1 hx0 hx1
  have kc0 : (convert 22 22 (.slice (some ⟨w1.heap.size, 0, none⟩) 1 1)).run Tryz.prog ((w1).alloc (.cells #[.int .u8 65] 5)) = .ok (.slice (some ⟨w1.heap.size, 0, none⟩) 1 1) ((w1).alloc (.cells #[.int .u8 65] 5 (1, 2))) := kcAt _ _ 65 (by simp)
  have kc1 : (convert 22 22 (.slice (some ⟨w1.heap.size + 1, 0, none⟩) 1 1)).run Tryz.prog (((w1).alloc (.cells #[.int .u8 65] 5 (1, 2))).alloc (.cells #[.int .u8 66] 5)) = .ok (.slice (some ⟨w1.heap.size + 1, 0, none⟩) 1 1) (((w1).alloc (.cells #[.int .u8 65] 5 (1, 2))).alloc (.cells #[.int .u8 66] 5 (1, 2))) := kcAt _ _ 66 (by simp)
  have kc2 : (convert 22 22 (.slice (some ⟨w1.heap.size + 2, 0, none⟩) 1 1)).run Tryz.prog ((((w1).alloc (.cells #[.int .u8 65] 5 (1, 2))).alloc (.cells #[.int .u8 66] 5 (1, 2))).alloc (.cells #[.int .u8 67] 5)) = .ok (.slice (some ⟨w1.heap.size + 2, 0, none⟩) 1 1) ((((w1).alloc (.cells #[.int .u8 65] 5 (1, 2))).alloc (.cells #[.int .u8 66] 5 (1, 2))).alloc (.cells #[.int .u8 67] 5 (1, 2))) := kcAt _ _ 67 (by simp)
  have kc4 : (convert 22 22 (.slice (some ⟨w1.heap.size + 4, 0, none⟩) 1 1)).run Tryz.prog ((((((w1).alloc (.cells #[.int .u8 65] 5 (1, 2))).alloc (.cells #[.int .u8 66] 5 (1, 2))).alloc (.cells #[.int .u8 67] 5 (1, 2))).alloc (.cells #[Value.slice (some ⟨w1.heap.size, 0, none⟩) 1 1, Value.slice (some ⟨w1.heap.size + 1, 0, none⟩) 1 1, Value.slice (some ⟨w1.heap.size + 2, 0, none⟩) 1 1] 22)).alloc (.cells #[.int .u8 114] 5)) = .ok (.slice (some ⟨w1.heap.size + 4, 0, none⟩) 1 1) ((((((w1).alloc (.cells #[.int .u8 65] 5 (1, 2))).alloc (.cells #[.int .u8 66] 5 (1, 2))).alloc (.cells #[.int .u8 67] 5 (1, 2))).alloc (.cells #[Value.slice (some ⟨w1.heap.size, 0, none⟩) 1 1, Value.slice (some ⟨w1.heap.size + 1, 0, none⟩) 1 1, Value.slice (some ⟨w1.heap.size + 2, 0, none⟩) 1 1] 22)).alloc (.cells #[.int .u8 114] 5 (1, 2))) := kcAt _ _ 114 (by simp)
  have kc5 : (convert 22 22 (.slice (some ⟨w1.heap.size + 5, 0, none⟩) 1 1)).run Tryz.prog (((((((w1).alloc (.cells #[.int .u8 65] 5 (1, 2))).alloc (.cells #[.int .u8 66] 5 (1, 2))).alloc (.cells #[.int .u8 67] 5 (1, 2))).alloc (.cells #[Value.slice (some ⟨w1.heap.size, 0, none⟩) 1 1, Value.slice (some ⟨w1.heap.size + 1, 0, none⟩) 1 1, Value.slice (some ⟨w1.heap.size + 2, 0, none⟩) 1 1] 22)).alloc (.cells #[.int .u8 114] 5 (1, 2))).alloc (.cells #[.int .u8 115] 5)) = .ok (.slice (some ⟨w1.heap.size + 5, 0, none⟩) 1 1) (((((((w1).alloc (.cells #[.int .u8 65] 5 (1, 2))).alloc (.cells #[.int .u8 66] 5 (1, 2))).alloc (.cells #[.int .u8 67] 5 (1, 2))).alloc (.cells #[Value.slice (some ⟨w1.heap.size, 0, none⟩) 1 1, Value.slice (some ⟨w1.heap.size + 1, 0, none⟩) 1 1, Value.slice (some ⟨w1.heap.size + 2, 0, none⟩) 1 1] 22)).alloc (.cells #[.int .u8 114] 5 (1, 2))).alloc (.cells #[.int .u8 115] 5 (1, 2))) := kcAt _ _ 115 (by simp)
  have kc7 : (convert 22 22 (.slice (some ⟨w1.heap.size + 7, 0, none⟩) 1 1)).run Tryz.prog (((((((((w1).alloc (.cells #[.int .u8 65] 5 (1, 2))).alloc (.cells #[.int .u8 66] 5 (1, 2))).alloc (.cells #[.int .u8 67] 5 (1, 2))).alloc (.cells #[Value.slice (some ⟨w1.heap.size, 0, none⟩) 1 1, Value.slice (some ⟨w1.heap.size + 1, 0, none⟩) 1 1, Value.slice (some ⟨w1.heap.size + 2, 0, none⟩) 1 1] 22)).alloc (.cells #[.int .u8 114] 5 (1, 2))).alloc (.cells #[.int .u8 115] 5 (1, 2))).alloc (.cells #[Value.slice (some ⟨w1.heap.size + 4, 0, none⟩) 1 1, Value.slice (some ⟨w1.heap.size + 5, 0, none⟩) 1 1] 22)).alloc (.cells #[.int .u8 120] 5)) = .ok (.slice (some ⟨w1.heap.size + 7, 0, none⟩) 1 1) (((((((((w1).alloc (.cells #[.int .u8 65] 5 (1, 2))).alloc (.cells #[.int .u8 66] 5 (1, 2))).alloc (.cells #[.int .u8 67] 5 (1, 2))).alloc (.cells #[Value.slice (some ⟨w1.heap.size, 0, none⟩) 1 1, Value.slice (some ⟨w1.heap.size + 1, 0, none⟩) 1 1, Value.slice (some ⟨w1.heap.size + 2, 0, none⟩) 1 1] 22)).alloc (.cells #[.int .u8 114] 5 (1, 2))).alloc (.cells #[.int .u8 115] 5 (1, 2))).alloc (.cells #[Value.slice (some ⟨w1.heap.size + 4, 0, none⟩) 1 1, Value.slice (some ⟨w1.heap.size + 5, 0, none⟩) 1 1] 22)).alloc (.cells #[.int .u8 120] 5 (1, 2))) := kcAt _ _ 120 (by simp)
  have kc8 : (convert 22 22 (.slice (some ⟨w1.heap.size + 8, 0, none⟩) 1 1)).run Tryz.prog ((((((((((w1).alloc (.cells #[.int .u8 65] 5 (1, 2))).alloc (.cells #[.int .u8 66] 5 (1, 2))).alloc (.cells #[.int .u8 67] 5 (1, 2))).alloc (.cells #[Value.slice (some ⟨w1.heap.size, 0, none⟩) 1 1, Value.slice (some ⟨w1.heap.size + 1, 0, none⟩) 1 1, Value.slice (some ⟨w1.heap.size + 2, 0, none⟩) 1 1] 22)).alloc (.cells #[.int .u8 114] 5 (1, 2))).alloc (.cells #[.int .u8 115] 5 (1, 2))).alloc (.cells #[Value.slice (some ⟨w1.heap.size + 4, 0, none⟩) 1 1, Value.slice (some ⟨w1.heap.size + 5, 0, none⟩) 1 1] 22)).alloc (.cells #[.int .u8 120] 5 (1, 2))).alloc (.cells #[.int .u8 121] 5)) = .ok (.slice (some ⟨w1.heap.size + 8, 0, none⟩) 1 1) ((((((((((w1).alloc (.cells #[.int .u8 65] 5 (1, 2))).alloc (.cells #[.int .u8 66] 5 (1, 2))).alloc (.cells #[.int .u8 67] 5 (1, 2))).alloc (.cells #[Value.slice (some ⟨w1.heap.size, 0, none⟩) 1 1, Value.slice (some ⟨w1.heap.size + 1, 0, none⟩) 1 1, Value.slice (some ⟨w1.heap.size + 2, 0, none⟩) 1 1] 22)).alloc (.cells #[.int .u8 114] 5 (1, 2))).alloc (.cells #[.int .u8 115] 5 (1, 2))).alloc (.cells #[Value.slice (some ⟨w1.heap.size + 4, 0, none⟩) 1 1, Value.slice (some ⟨w1.heap.size + 5, 0, none⟩) 1 1] 22)).alloc (.cells #[.int .u8 120] 5 (1, 2))).alloc (.cells #[.int .u8 121] 5 (1, 2))) := kcAt _ _ 121 (by simp)
  obtain ⟨Wn, HWn⟩ : ∃ W, Hid (W = ((((((((((w1).alloc (.cells #[.int .u8 65] 5 (1, 2))).alloc (.cells #[.int .u8 66] 5 (1, 2))).alloc (.cells #[.int .u8 67] 5 (1, 2))).alloc (.cells #[Value.slice (some ⟨w1.heap.size, 0, none⟩) 1 1, Value.slice (some ⟨w1.heap.size + 1, 0, none⟩) 1 1, Value.slice (some ⟨w1.heap.size + 2, 0, none⟩) 1 1] 22)).alloc (.cells #[.int .u8 114] 5 (1, 2))).alloc (.cells #[.int .u8 115] 5 (1, 2))).alloc (.cells #[Value.slice (some ⟨w1.heap.size + 4, 0, none⟩) 1 1, Value.slice (some ⟨w1.heap.size + 5, 0, none⟩) 1 1] 22)).alloc (.cells #[.int .u8 120] 5 (1, 2))).alloc (.cells #[.int .u8 121] 5 (1, 2))).alloc (.cells #[Value.slice (some ⟨w1.heap.size + 7, 0, none⟩) 1 1, Value.slice (some ⟨w1.heap.size + 8, 0, none⟩) 1 1] 22)) := ⟨_, rfl⟩
  go_upto_region 2 with fail
  rw [← HWn.out]
  refine Code.wp_name (fun W2 hW2 => ?_)
  simp only [Nat.add_assoc, Nat.reduceAdd] at hW2 ⊢
  have hp : w.heap.size < w1.heap.size := HM1.out.box.lt
  have hpn : Wn.heap.size = w1.heap.size + 10 := by rw [HWn.out]; simp
  have hg1 : w1.grownBy Wn none := by rw [HWn.out]; exact chainGrown w1
  have HMn : Hid (DwM B a n cap zs hi w Wn) := HM1.out.grown hB hg1 (fun k e => by cases e)
  have HI2 : Hid (DwI B a n cap zs hi w Wn Wn.heap.size (N : Int) (.slice (some ⟨w1.heap.size + 3, 0, none⟩) 3 3) (.slice none 0 0) (.slice (some ⟨w1.heap.size + 6, 0, none⟩) 2 2) (.slice none 0 0) (.slice (some ⟨w1.heap.size + 9, 0, none⟩) 2 2) (.slice none 0 0) W2) := by
    unfold Hid
    rw [hW2]
    exact DwI.start HMn.out hB (by omega)
  have HNm : Hid (OwnSS (w.heap.size + 1) Wn (.slice (some ⟨w1.heap.size + 3, 0, none⟩) 3 3) [[65], [66], [67]] ∧ OwnSS (w.heap.size + 1) Wn (.slice (some ⟨w1.heap.size + 6, 0, none⟩) 2 2) [[114], [115]] ∧ OwnSS (w.heap.size + 1) Wn (.slice (some ⟨w1.heap.size + 9, 0, none⟩) 2 2) [[120], [121]]) := by
    have hb : Wn.heap[w1.heap.size]? = some (.cells #[.int .u8 65] 5 (1, 2)) ∧ Wn.heap[w1.heap.size + 1]? = some (.cells #[.int .u8 66] 5 (1, 2)) ∧ Wn.heap[w1.heap.size + 2]? = some (.cells #[.int .u8 67] 5 (1, 2)) ∧ Wn.heap[w1.heap.size + 3]? = some (.cells #[Value.slice (some ⟨w1.heap.size, 0, none⟩) 1 1, Value.slice (some ⟨w1.heap.size + 1, 0, none⟩) 1 1, Value.slice (some ⟨w1.heap.size + 2, 0, none⟩) 1 1] 22 (0, 0)) ∧ Wn.heap[w1.heap.size + 4]? = some (.cells #[.int .u8 114] 5 (1, 2)) ∧ Wn.heap[w1.heap.size + 5]? = some (.cells #[.int .u8 115] 5 (1, 2)) ∧ Wn.heap[w1.heap.size + 6]? = some (.cells #[Value.slice (some ⟨w1.heap.size + 4, 0, none⟩) 1 1, Value.slice (some ⟨w1.heap.size + 5, 0, none⟩) 1 1] 22 (0, 0)) ∧ Wn.heap[w1.heap.size + 7]? = some (.cells #[.int .u8 120] 5 (1, 2)) ∧ Wn.heap[w1.heap.size + 8]? = some (.cells #[.int .u8 121] 5 (1, 2)) ∧ Wn.heap[w1.heap.size + 9]? = some (.cells #[Value.slice (some ⟨w1.heap.size + 7, 0, none⟩) 1 1, Value.slice (some ⟨w1.heap.size + 8, 0, none⟩) 1 1] 22 (0, 0)) := by rw [HWn.out]; exact chainAt w1
    exact chainSS hb (by omega)
  obtain ⟨q, hq⟩ : ∃ q, q = Wn.heap.size := ⟨_, rfl⟩
  have HQ : Hid (q = Wn.heap.size) := hq
  have HQn : Hid (Wn.heap.size = w1.heap.size + 10) := hpn
  have HG1 : Hid (w.heap.size < q) := by unfold Hid; omega
  rw [← hq] at HI2
  obtain ⟨b1, hb1⟩ : ∃ b, b = w1.heap.size + 3 := ⟨_, rfl⟩
  obtain ⟨b3, hb3⟩ : ∃ b, b = w1.heap.size + 6 := ⟨_, rfl⟩
  obtain ⟨b5, hb5⟩ : ∃ b, b = w1.heap.size + 9 := ⟨_, rfl⟩
  rw [← hb1, ← hb3, ← hb5] at HI2 HNm
  have hq2 : q = w1.heap.size + 10 := by omega
  try rw [← hq2]
  try rw [← hb1]
  clear hb1 hb3 hb5 hW2 hg1 hpn hq hq2 hp kc0 kc1 kc2 kc4 kc5 kc7 kc8
  have HFin : Hid (∀ (V : World) (n2 c2 n4 c4 n6 c6 : Nat) (a2 a4 a6 : Option Addr) (sets rels : List (List Bool)) (at' : List Int), DwI B a n cap zs hi w Wn q (N : Int) (.slice (some ⟨b1, 0, none⟩) 3 3) (.slice a2 n2 c2) (.slice (some ⟨b3, 0, none⟩) 2 2) (.slice a4 n4 c4) (.slice (some ⟨b5, 0, none⟩) 2 2) (.slice a6 n6 c6) V →
      OwnFF (q + 1) V (.slice a2 n2 c2) sets → OwnFF (q + 1) V (.slice a4 n4 c4) rels → OwnI (q + 1) V (.slice a6 n6 c6) at' → (sets.length = 3 ∧ rels.length = 2 ∧ at'.length = 2 ∧ (∀ l ∈ sets, l.length = N)) →
      DwP B a n cap zs hi w (.returned (.agg #[.int .i64 N, .slice (some ⟨b1, 0, none⟩) 3 3, .slice a2 n2 c2, .slice (some ⟨b3, 0, none⟩) 2 2, .slice a4 n4 c4, .slice (some ⟨b5, 0, none⟩) 2 2, .slice a6 n6 c6])) (put7 V w.heap.size (.int .i64 N) (.slice (some ⟨b1, 0, none⟩) 3 3) (.slice a2 n2 c2) (.slice (some ⟨b3, 0, none⟩) 2 2) (.slice a4 n4 c4) (.slice (some ⟨b5, 0, none⟩) 2 2) (.slice a6 n6 c6)) ∧
      BoxW 27 (put7 V w.heap.size (.int .i64 N) (.slice (some ⟨b1, 0, none⟩) 3 3) (.slice a2 n2 c2) (.slice (some ⟨b3, 0, none⟩) 2 2) (.slice a4 n4 c4) (.slice (some ⟨b5, 0, none⟩) 2 2) (.slice a6 n6 c6)) w.heap.size (N : Int) (.slice (some ⟨b1, 0, none⟩) 3 3) (.slice a2 n2 c2) (.slice (some ⟨b3, 0, none⟩) 2 2) (.slice a4 n4 c4) (.slice (some ⟨b5, 0, none⟩) 2 2) (.slice a6 n6 c6)) := by
    intro V n2 c2 n4 c4 n6 c6 a2 a4 a6 sets rels at' hI hF2 hF4 hA hL
    exact DwI.fin hI ⟨hN1, hN3⟩ ⟨b1, rfl⟩ (by rw [HQ.out]) HNm.out hF2 hF4 hA hL
  clear HQn
  obtain ⟨i0, hi0, hz0, hz1, hz2⟩ := info_parts Tryz.infoDBS
  have HN : Hid (1 ≤ N ∧ N ≤ 3) := ⟨hN1, hN3⟩
  clear hN hN1 hN3
  go_wp2_with fail
  go_loopw [4] (fun q' wr => ∃ (k : Nat) (a2 : Option Addr) (n2 c2 : Nat) (L : List (List Bool)), k ≤ 3 ∧ q' = .int .i64 k ∧ L.length = k ∧ (∀ l ∈ L, l.length = N) ∧ DwI B a n cap zs hi w Wn q (N : Int) (.slice (some ⟨b1, 0, none⟩) 3 3) (.slice a2 n2 c2) (.slice (some ⟨b3, 0, none⟩) 2 2) (.slice none 0 0) (.slice (some ⟨b5, 0, none⟩) 2 2) (.slice none 0 0) wr ∧ OwnFF (q + 1) wr (.slice a2 n2 c2) L) (fun q' _ => 3 - (intOf q').toNat)
  case atStart => exact ⟨0, none, 0, 0, [], by omega, rfl, rfl, by simp, HI2.out, OwnFF.nil _ _⟩
  case round =>
    obtain ⟨k, a2, n2, c2, L, hk, rfl, hL, hLN, hI, hF⟩ := hrel
    obtain ⟨wo, hwo⟩ : ∃ wo : World, wo = wr := ⟨_, rfl⟩
    subst hwo
    have HI : Hid (DwI B a n cap zs hi w Wn q (N : Int) (.slice (some ⟨b1, 0, none⟩) 3 3) (.slice a2 n2 c2) (.slice (some ⟨b3, 0, none⟩) 2 2) (.slice none 0 0) (.slice (some ⟨b5, 0, none⟩) 2 2) (.slice none 0 0) wo) := hI
    have HF : Hid (OwnFF (q + 1) wo (.slice a2 n2 c2) L) := hF
    have HL : Hid (L.length = k) := hL
    have HLN : Hid (∀ l ∈ L, l.length = N) := hLN
    have hqo : q < wo.heap.size := hI.lt.2.2
    obtain ⟨z0, z1, z2, z3, z4, z5, z6⟩ := hI.box.cells
    clear hI hF hL hLN
    by_cases hlt : k < 3
    · have hki : (k : Int) < 3 := by omega
      obtain ⟨Wm, HWm⟩ : ∃ W, Hid (W = wo.alloc (.cells (madeCells #[.bool false] N) 4)) := ⟨_, rfl⟩
      obtain ⟨g, hg⟩ : ∃ g, g = wo.heap.size := ⟨_, rfl⟩
      have hmk : (Instr.makeSlice 63 (.int .i64 (N : Int)) (.int .i64 (N : Int))).run Tryz.prog wo = .ok (.slice (some ⟨g, 0, none⟩) N N) Wm := by rw [hg, HWm.out]; exact bmake N (by have := HN.out; omega) wo
      have HIm : Hid (DwI B a n cap zs hi w Wn q (N : Int) (.slice (some ⟨b1, 0, none⟩) 3 3) (.slice a2 n2 c2) (.slice (some ⟨b3, 0, none⟩) 2 2) (.slice none 0 0) (.slice (some ⟨b5, 0, none⟩) 2 2) (.slice none 0 0) Wm) := by unfold Hid; rw [HWm.out]; exact HI.out.alloc _
      have HBm : Hid (OwnBs (q + 1) Wm (.slice (some ⟨g, 0, none⟩) N N) (List.replicate N false)) := by unfold Hid; rw [HWm.out, hg]; exact bmade N (by have := HN.out; omega) wo hqo
      have HGg : Hid (g = wo.heap.size) := hg
      have hqg : q < g := by omega
      have HSm : Hid (Same (q + 1) g wo Wm) := by unfold Hid; rw [HWm.out]; exact fun b _ h => allocOld (by omega)
      clear hg hqo
      go_wp2_with fail
      go_loopw [6] (fun q' wr => ∃ (j : Nat) (fl : List Bool), j ≤ N ∧ q' = .int .i64 j ∧ fl.length = N ∧ DwI B a n cap zs hi w Wn q (N : Int) (.slice (some ⟨b1, 0, none⟩) 3 3) (.slice a2 n2 c2) (.slice (some ⟨b3, 0, none⟩) 2 2) (.slice none 0 0) (.slice (some ⟨b5, 0, none⟩) 2 2) (.slice none 0 0) wr ∧ Same (q + 1) g wo wr ∧ OwnBs (q + 1) wr (.slice (some ⟨g, 0, none⟩) N N) fl) (fun q' _ => N - (intOf q').toNat)
      case atStart => exact ⟨0, List.replicate N false, Nat.zero_le _, rfl, by simp, HIm.out, HSm.out, HBm.out⟩
      case round =>
        obtain ⟨j, fl, hj, rfl, hfl, hIr, hSr, hBr⟩ := hrel
        have HIr : Hid (DwI B a n cap zs hi w Wn q (N : Int) (.slice (some ⟨b1, 0, none⟩) 3 3) (.slice a2 n2 c2) (.slice (some ⟨b3, 0, none⟩) 2 2) (.slice none 0 0) (.slice (some ⟨b5, 0, none⟩) 2 2) (.slice none 0 0) wr) := hIr
        have HSr : Hid (Same (q + 1) g wo wr) := hSr
        have HBr : Hid (OwnBs (q + 1) wr (.slice (some ⟨g, 0, none⟩) N N) fl) := hBr
        have HFl : Hid (fl.length = N) := hfl
        have hBq : B < q := by have := hIr.lt; omega
        have hN3 : N ≤ 3 := HN.out.2
        have hgr : g < wr.heap.size := by have := HN.out; exact (hBr.at hfl (j := 0) (by omega)).2.2.2
        obtain ⟨y0, y1, y2, y3, y4, y5, y6⟩ := hIr.box.cells
        clear hIr hSr hBr hfl
        by_cases hjl : j < N
        · have hji : (j : Int) < (N : Int) := by omega
          go_wp2_with fail
          refine (l1Once_any HIr.out.m.cur 2 (by omega)).mono ?_
          rintro e w5 ⟨y, rfl, hc5, ho5⟩
          have HI5 : Hid (DwI B a n cap zs hi w Wn q (N : Int) (.slice (some ⟨b1, 0, none⟩) 3 3) (.slice a2 n2 c2) (.slice (some ⟨b3, 0, none⟩) 2 2) (.slice none 0 0) (.slice (some ⟨b5, 0, none⟩) 2 2) (.slice none 0 0) w5) := HIr.out.only hc5 ho5
          have HB5 : Hid (OwnBs (q + 1) w5 (.slice (some ⟨g, 0, none⟩) N N) fl) := HBr.out.same (fun b h1 h2 => ho5.other b h2 (by omega))
          have HS5 : Hid (Same (q + 1) g wo w5) := HSr.out.trans (fun b h1 h2 => ho5.other b (by omega) (by omega))
          obtain ⟨hcl, hfz, _, _⟩ := HB5.out.at HFl.out hjl
          clear hc5 ho5 y0 y1 y2 y3 y4 y5 y6
          go_wp2_with fail
          go_roundw
          case rel =>
            refine ⟨j + 1, fl.set j y, by omega, by go_num, by rw [List.length_set]; exact HFl.out, HI5.out.set (by omega) _, HS5.out.trans (fun b h1 h2 => Below.heap_setCell _ _ _ _ (by show b ≠ g; omega)), HB5.out.stored HFl.out j y⟩
          case measure => simp [intOf]; omega
        · have hji : ¬ (j : Int) < (N : Int) := by omega
          have hFr : OwnFF (q + 1) wr (.slice a2 n2 c2) L := HF.out.same (by rw [← HGg.out]; exact HSr.out)
          obtain ⟨vs, hrow, hfls⟩ := hFr
          have HA0 : Hid (DwI B a n cap zs hi w Wn q (N : Int) (.slice (some ⟨b1, 0, none⟩) 3 3) (.slice a2 n2 c2) (.slice (some ⟨b3, 0, none⟩) 2 2) (.slice none 0 0) (.slice (some ⟨b5, 0, none⟩) 2 2) (.slice none 0 0) (wr.alloc (.cells #[.slice (some ⟨g, 0, none⟩) N N] 63))) := HIr.out.alloc _
          have HRow : Hid ((wr.alloc (.cells #[.slice (some ⟨g, 0, none⟩) N N] 63)).ownsRow (q + 1) 63 1 (.slice a2 n2 c2) L.length vs) := hrow.alloc _
          have HFls : Hid (∀ i, i < L.length → OwnBs (q + 1) (wr.alloc (.cells #[.slice (some ⟨g, 0, none⟩) N N] 63)) (vs.getD i undef) (L.getD i [])) := fun i hi => World.ownsRow.alloc (hfls i hi) _
          have HBa : Hid (OwnBs (q + 1) (wr.alloc (.cells #[.slice (some ⟨g, 0, none⟩) N N] 63)) (.slice (some ⟨g, 0, none⟩) N N) fl) := World.ownsRow.alloc HBr.out _
          have HNews : Hid (∀ j u, [Value.slice (some ⟨g, 0, none⟩) N N][j]? = some u → (wr.alloc (.cells #[.slice (some ⟨g, 0, none⟩) N N] 63)).cell? ((⟨wr.heap.size, 0, none⟩ : Addr).add j) = some u) := newsOne _ _ _
          have hLk : L.length ≤ 3 := by rw [HL.out]; omega
          clear hrow hfls
          go_wp2_with (first | (at_builtin; refine wpList_append_own _ rfl (.tmp 50) (.tmp 52) 24 rfl (q + 1) 63 i0 (.slice none 0 0) 1 24 Tryz.underlying24 hi0 hz0 hz1 hz2 rfl (by decide) (.slice a2 n2 c2) L.length vs rfl HRow.out ⟨wr.heap.size, 0, none⟩ 1 1 [.slice (some ⟨g, 0, none⟩) N N] rfl rfl HNews.out (by simp [Value.oneCell']) (by unfold maxLen; omega) (by omega) (by simp; omega) ?_; intro v6 w6 hown hgrow _; obtain ⟨g6, c6, rfl, hg6⟩ := own_form hown; have HI6 : Hid (DwI B a n cap zs hi w Wn q (N : Int) (.slice (some ⟨b1, 0, none⟩) 3 3) (.slice a2 n2 c2) (.slice (some ⟨b3, 0, none⟩) 2 2) (.slice none 0 0) (.slice (some ⟨b5, 0, none⟩) 2 2) (.slice none 0 0) w6) := HA0.out.grown hgrow (fun k e => by have := (HRow.out.lt k e).1; omega); have HF6 : Hid (OwnFF (q + 1) w6 (.slice (some ⟨g6, 0, none⟩) (L.length + 1) c6) (L ++ [fl])) := OwnFF.push HRow.out HFls.out HBa.out hown hgrow; clear y0 y1 y2 y3 y4 y5 y6; obtain ⟨y0, y1, y2, y3, y4, y5, y6⟩ := HI6.out.box.cells; have yf2 := HI6.out.box.frz 2; clear hown hgrow hg6) | fail)
          go_roundw
          case rel =>
            have hset : Same (q + 1) w6.heap.size w6 (w6.setCell ⟨q, 2, none⟩ (.slice (some ⟨g6, 0, none⟩) (L.length + 1) c6)) := fun b h1 _ => Below.heap_setCell _ _ _ _ (by show b ≠ q; omega)
            refine ⟨k + 1, some ⟨g6, 0, none⟩, L.length + 1, c6, L ++ [fl], by omega, by go_num, by rw [List.length_append, HL.out]; rfl, fun l hl => ?_, HI6.out.set2 _, HF6.out.same hset⟩
            rcases List.mem_append.1 hl with h | h
            · exact HLN.out l h
            · rw [List.mem_singleton.1 h]; exact HFl.out
          case measure => simp [intOf]; omega
    · have hk3 : k = 3 := by omega
      have hki : ¬ (k : Int) < 3 := by omega
      have HLs : Hid (L.length = 3) := by unfold Hid; rw [HL.out]; exact hk3
      obtain ⟨h2, hh2⟩ : ∃ h2, h2 = wo.heap.size := ⟨_, rfl⟩
      have HH : Hid (h2 = wo.heap.size) := hh2
      have hqh : q < h2 := by omega
      obtain ⟨M, hM⟩ : ∃ M, M = N * N := ⟨_, rfl⟩
      have hN1 := HN.out.1
      have hN3 := HN.out.2
      have hM9 : 1 ≤ M ∧ M ≤ 9 := by
        have : N = 1 ∨ N = 2 ∨ N = 3 := by omega
        rcases this with e | e | e <;> subst e <;> omega
      have hNM : (N : Int) * (N : Int) = (M : Int) := by rw [hM]; simp
      clear hk hlt hk3 hh2 hM z0 z1 z2 z3 z4 z5 z6
      go_wp2_with fail
      go_loopw [7] (fun q' wr => ∃ (k : Nat) (a4 : Option Addr) (n4 c4 : Nat) (a6 : Option Addr) (n6 c6 : Nat) (R : List (List Bool)) (A : List Int), k ≤ 2 ∧ q' = .int .i64 k ∧ R.length = k ∧ A.length = k ∧ DwI B a n cap zs hi w Wn q (N : Int) (.slice (some ⟨b1, 0, none⟩) 3 3) (.slice a2 n2 c2) (.slice (some ⟨b3, 0, none⟩) 2 2) (.slice a4 n4 c4) (.slice (some ⟨b5, 0, none⟩) 2 2) (.slice a6 n6 c6) wr ∧ Same (q + 1) h2 wo wr ∧ h2 ≤ wr.heap.size ∧ OwnFF h2 wr (.slice a4 n4 c4) R ∧ OwnI h2 wr (.slice a6 n6 c6) A) (fun q' _ => 2 - (intOf q').toNat)
      case atStart => exact ⟨0, none, 0, 0, none, 0, 0, [], [], by omega, rfl, rfl, rfl, HI.out, Same.refl _ _ _, Nat.le_of_eq HH.out, OwnFF.nil _ _, OwnI.nil _ _⟩
      case round =>
        obtain ⟨k, a4, n4, c4, a6, n6, c6, R, A, hk, rfl, hR, hA, hI, hS, hhp', hF, hO⟩ := hrel
        obtain ⟨wp, hwp⟩ : ∃ wp : World, wp = wr := ⟨_, rfl⟩
        subst hwp
        have HIp : Hid (DwI B a n cap zs hi w Wn q (N : Int) (.slice (some ⟨b1, 0, none⟩) 3 3) (.slice a2 n2 c2) (.slice (some ⟨b3, 0, none⟩) 2 2) (.slice a4 n4 c4) (.slice (some ⟨b5, 0, none⟩) 2 2) (.slice a6 n6 c6) wp) := hI
        have HSp : Hid (Same (q + 1) h2 wo wp) := hS
        have HFp : Hid (OwnFF h2 wp (.slice a4 n4 c4) R) := hF
        have HOp : Hid (OwnI h2 wp (.slice a6 n6 c6) A) := hO
        have HR : Hid (R.length = k) := hR
        have HA : Hid (A.length = k) := hA
        have hqp : q < wp.heap.size := hI.lt.2.2
        have hhp : h2 ≤ wp.heap.size := hhp'
        obtain ⟨z0, z1, z2, z3, z4, z5, z6⟩ := hI.box.cells
        clear hI hS hF hO hR hA
        by_cases hlt : k < 2
        · have hki : (k : Int) < 2 := by omega
          obtain ⟨Wm, HWm⟩ : ∃ W, Hid (W = wp.alloc (.cells (madeCells #[.bool false] M) 4)) := ⟨_, rfl⟩
          obtain ⟨g, hg⟩ : ∃ g, g = wp.heap.size := ⟨_, rfl⟩
          have hmk : (Instr.makeSlice 63 (.int .i64 (M : Int)) (.int .i64 (M : Int))).run Tryz.prog wp = .ok (.slice (some ⟨g, 0, none⟩) M M) Wm := by rw [hg, HWm.out]; exact bmake M (by omega) wp
          have HIm : Hid (DwI B a n cap zs hi w Wn q (N : Int) (.slice (some ⟨b1, 0, none⟩) 3 3) (.slice a2 n2 c2) (.slice (some ⟨b3, 0, none⟩) 2 2) (.slice a4 n4 c4) (.slice (some ⟨b5, 0, none⟩) 2 2) (.slice a6 n6 c6) Wm) := by unfold Hid; rw [HWm.out]; exact HIp.out.alloc _
          have HBm : Hid (OwnBs h2 Wm (.slice (some ⟨g, 0, none⟩) M M) (List.replicate M false)) := by unfold Hid; rw [HWm.out, hg]; exact bmade M (by omega) wp hhp
          have HGg : Hid (g = wp.heap.size) := hg
          have hqg : q < g := by omega
          have hhg : h2 ≤ g := by omega
          have HSm : Hid (Same (q + 1) g wp Wm) := by unfold Hid; rw [HWm.out]; exact fun b _ h => allocOld (by omega)
          clear hg hqp hhp
          go_wp2_with fail
          go_loopw [9] (fun q' wr => ∃ (j : Nat) (fl : List Bool), j ≤ M ∧ q' = .int .i64 j ∧ fl.length = M ∧ DwI B a n cap zs hi w Wn q (N : Int) (.slice (some ⟨b1, 0, none⟩) 3 3) (.slice a2 n2 c2) (.slice (some ⟨b3, 0, none⟩) 2 2) (.slice a4 n4 c4) (.slice (some ⟨b5, 0, none⟩) 2 2) (.slice a6 n6 c6) wr ∧ Same (q + 1) g wp wr ∧ OwnBs h2 wr (.slice (some ⟨g, 0, none⟩) M M) fl) (fun q' _ => M - (intOf q').toNat)
          case atStart => exact ⟨0, List.replicate M false, Nat.zero_le _, rfl, by simp, HIm.out, HSm.out, HBm.out⟩
          case round =>
            obtain ⟨j, fl, hj, rfl, hfl, hIr, hSr, hBr⟩ := hrel
            have HIr : Hid (DwI B a n cap zs hi w Wn q (N : Int) (.slice (some ⟨b1, 0, none⟩) 3 3) (.slice a2 n2 c2) (.slice (some ⟨b3, 0, none⟩) 2 2) (.slice a4 n4 c4) (.slice (some ⟨b5, 0, none⟩) 2 2) (.slice a6 n6 c6) wr) := hIr
            have HSr : Hid (Same (q + 1) g wp wr) := hSr
            have HBr : Hid (OwnBs h2 wr (.slice (some ⟨g, 0, none⟩) M M) fl) := hBr
            have HFl : Hid (fl.length = M) := hfl
            have hBq : B < q := by have := hIr.lt; omega
            have hgr : g < wr.heap.size := (hBr.at hfl (j := 0) (by omega)).2.2.2
            obtain ⟨y0, y1, y2, y3, y4, y5, y6⟩ := hIr.box.cells
            clear hIr hSr hBr hfl
            by_cases hjl : j < M
            · have hji : (j : Int) < (M : Int) := by omega
              go_wp2_with fail
              refine (l1Once_any HIr.out.m.cur 3 (by omega)).mono ?_
              rintro e w5 ⟨y, rfl, hc5, ho5⟩
              have HI5 : Hid (DwI B a n cap zs hi w Wn q (N : Int) (.slice (some ⟨b1, 0, none⟩) 3 3) (.slice a2 n2 c2) (.slice (some ⟨b3, 0, none⟩) 2 2) (.slice a4 n4 c4) (.slice (some ⟨b5, 0, none⟩) 2 2) (.slice a6 n6 c6) w5) := HIr.out.only hc5 ho5
              have HB5 : Hid (OwnBs h2 w5 (.slice (some ⟨g, 0, none⟩) M M) fl) := HBr.out.same (fun b h1 h2' => ho5.other b h2' (by omega))
              have HS5 : Hid (Same (q + 1) g wp w5) := HSr.out.trans (fun b h1 h2' => ho5.other b (by omega) (by omega))
              obtain ⟨hcl, hfz, _, _⟩ := HB5.out.at HFl.out hjl
              clear hc5 ho5 y0 y1 y2 y3 y4 y5 y6
              go_wp2_with fail
              go_roundw
              case rel =>
                refine ⟨j + 1, fl.set j y, by omega, by go_num, by rw [List.length_set]; exact HFl.out, HI5.out.set (by omega) _, HS5.out.trans (fun b h1 h2' => Below.heap_setCell _ _ _ _ (by show b ≠ g; omega)), HB5.out.stored HFl.out j y⟩
              case measure => simp [intOf]; omega
            · have hji : ¬ (j : Int) < (M : Int) := by omega
              have hSg : Same h2 wp.heap.size wp wr := by rw [← HGg.out]; exact HSr.out.mono (by omega) (Nat.le_refl _)
              have hFr : OwnFF h2 wr (.slice a4 n4 c4) R := HFp.out.same hSg
              have hOr : OwnI h2 wr (.slice a6 n6 c6) A := ownI_same HOp.out hSg
              have HSa : Hid (Same (q + 1) h2 wo (wr.alloc (.cells #[.slice (some ⟨g, 0, none⟩) M M] 63))) := (HSp.out.trans (HSr.out.mono (Nat.le_refl _) hhg)).trans (fun b _ h => allocOld (by omega))
              obtain ⟨vs, hrow, hfls⟩ := hFr
              have HA0 : Hid (DwI B a n cap zs hi w Wn q (N : Int) (.slice (some ⟨b1, 0, none⟩) 3 3) (.slice a2 n2 c2) (.slice (some ⟨b3, 0, none⟩) 2 2) (.slice a4 n4 c4) (.slice (some ⟨b5, 0, none⟩) 2 2) (.slice a6 n6 c6) (wr.alloc (.cells #[.slice (some ⟨g, 0, none⟩) M M] 63))) := HIr.out.alloc _
              have HRow : Hid ((wr.alloc (.cells #[.slice (some ⟨g, 0, none⟩) M M] 63)).ownsRow h2 63 1 (.slice a4 n4 c4) R.length vs) := hrow.alloc _
              have HOa : Hid (OwnI h2 (wr.alloc (.cells #[.slice (some ⟨g, 0, none⟩) M M] 63)) (.slice a6 n6 c6) A) := World.ownsRow.alloc hOr _
              have HFls : Hid (∀ i, i < R.length → OwnBs h2 (wr.alloc (.cells #[.slice (some ⟨g, 0, none⟩) M M] 63)) (vs.getD i undef) (R.getD i [])) := fun i hi => World.ownsRow.alloc (hfls i hi) _
              have HBa : Hid (OwnBs h2 (wr.alloc (.cells #[.slice (some ⟨g, 0, none⟩) M M] 63)) (.slice (some ⟨g, 0, none⟩) M M) fl) := World.ownsRow.alloc HBr.out _
              have HNews : Hid (∀ j u, [Value.slice (some ⟨g, 0, none⟩) M M][j]? = some u → (wr.alloc (.cells #[.slice (some ⟨g, 0, none⟩) M M] 63)).cell? ((⟨wr.heap.size, 0, none⟩ : Addr).add j) = some u) := newsOne _ _ _
              have hLk : R.length ≤ 2 := by rw [HR.out]; omega
              clear hrow hfls hOr hSg
              go_upto_region 20 with (first | (at_builtin; refine wpList_append_own _ rfl (.tmp 77) (.tmp 79) 24 rfl h2 63 i0 (.slice none 0 0) 1 24 Tryz.underlying24 hi0 hz0 hz1 hz2 rfl (by decide) (.slice a4 n4 c4) R.length vs rfl HRow.out ⟨wr.heap.size, 0, none⟩ 1 1 [.slice (some ⟨g, 0, none⟩) M M] rfl rfl HNews.out (by simp [Value.oneCell']) (by unfold maxLen; omega) (by omega) (by simp; omega) ?_; intro v8 w8 hown hgrow _; obtain ⟨g8, c8, rfl, hg8⟩ := own_form hown; have HI8 : Hid (DwI B a n cap zs hi w Wn q (N : Int) (.slice (some ⟨b1, 0, none⟩) 3 3) (.slice a2 n2 c2) (.slice (some ⟨b3, 0, none⟩) 2 2) (.slice a4 n4 c4) (.slice (some ⟨b5, 0, none⟩) 2 2) (.slice a6 n6 c6) w8) := HA0.out.grown hgrow (fun k e => by have := (HRow.out.lt k e).1; omega); have HF8 : Hid (OwnFF h2 w8 (.slice (some ⟨g8, 0, none⟩) (R.length + 1) c8) (R ++ [fl])) := OwnFF.push HRow.out HFls.out HBa.out hown hgrow; have HO8 : Hid (OwnI h2 w8 (.slice a6 n6 c6) A) := ownsR_other HOa.out HRow.out (by decide) hgrow; have HS8 : Hid (Same (q + 1) h2 wo w8) := HSa.out.trans (fun b _ h => hgrow.block b (by simp; omega) (fun e => by have := (HRow.out.lt b e.symm).1; omega)); have HH8 : Hid (h2 ≤ w8.heap.size) := Nat.le_trans (by simp; omega) hgrow.size; clear y0 y1 y2 y3 y4 y5 y6; obtain ⟨y0, y1, y2, y3, y4, y5, y6⟩ := HI8.out.box.cells; have yf4 := HI8.out.box.frz 4; clear hown hgrow hg8) | fail)
              refine Code.wp_name (fun w9 hw9 => ?_)
              have hst : Same (q + 1) w8.heap.size w8 w9 := by rw [hw9]; exact fun b h1 _ => Below.heap_setCell _ _ _ _ (by show b ≠ q; omega)
              have hsz9 : w9.heap.size = w8.heap.size := by rw [hw9]; simp
              have HI9 : Hid (DwI B a n cap zs hi w Wn q (N : Int) (.slice (some ⟨b1, 0, none⟩) 3 3) (.slice a2 n2 c2) (.slice (some ⟨b3, 0, none⟩) 2 2) (.slice (some ⟨g8, 0, none⟩) (R.length + 1) c8) (.slice (some ⟨b5, 0, none⟩) 2 2) (.slice a6 n6 c6) w9) := by unfold Hid; rw [hw9]; exact HI8.out.set4 _
              have HF9 : Hid (OwnFF h2 w9 (.slice (some ⟨g8, 0, none⟩) (R.length + 1) c8) (R ++ [fl])) := HF8.out.same (hst.mono (by omega) (Nat.le_refl _))
              have HO9 : Hid (OwnI h2 w9 (.slice a6 n6 c6) A) := ownI_same HO8.out (hst.mono (by omega) (Nat.le_refl _))
              have hq8 : h2 ≤ w8.heap.size := by have := HH8.out; omega
              have HS9 : Hid (Same (q + 1) h2 wo w9) := HS8.out.trans (hst.mono (Nat.le_refl _) hq8)
              have hq9 : h2 ≤ w9.heap.size := by omega
              have HI9d : Hid (DwI B a n cap zs hi w Wn q (N : Int) (.slice (some ⟨b1, 0, none⟩) 3 3) (.slice a2 n2 c2) (.slice (some ⟨b3, 0, none⟩) 2 2) (.slice (some ⟨g8, 0, none⟩) (R.length + 1) c8) (.slice (some ⟨b5, 0, none⟩) 2 2) (.slice a6 n6 c6) w9.drew) := HI9.out.grown (row := none) ⟨rfl, rfl, rfl, Nat.le_refl _, fun _ _ _ => rfl⟩ (fun k e => by cases e)
              obtain ⟨i1, hi1, hu0, hu1, hu2⟩ := info_parts Tryz.infoDI
              have hAk : A.length ≤ 2 := by rw [HA.out]; omega
              clear hw9 hst hsz9 hq8 y0 y1 y2 y3 y4 y5 y6
              obtain ⟨y0, y1, y2, y3, y4, y5, y6⟩ := HI9.out.box.cells
              first
              | go_region_law (first
                | (refine step_append_lies (w10.alloc (.cells #[.int .i64 x] 3)) rfl (.tmp 83) (.tmp 88) 25 rfl h2 3 i1 (.int .i64 0) 1 8 Tryz.underlying25 hi1 hu0 hu1 hu2 rfl (by decide) (.slice a6 n6 c6) A.length (A.map (Value.int .i64)) (by simp [Act.eval]) HOa.out ⟨w10.heap.size, 0, none⟩ 1 1 [.int .i64 x] (by simp [Act.eval]) rfl HNw.out (by simp [Value.oneCell']) (by decide) (by unfold maxLen; omega) (by omega) hqa _ rfl ?_; intro g12 c12 w12 hown hgrow _ _; have HI12 : Hid (DwI B a n cap zs hi w Wn q (N : Int) (.slice (some ⟨b1, 0, none⟩) 3 3) (.slice a2 n2 c2) (.slice (some ⟨b3, 0, none⟩) 2 2) (.slice (some ⟨g8, 0, none⟩) (R.length + 1) c8) (.slice (some ⟨b5, 0, none⟩) 2 2) (.slice a6 n6 c6) w12) := HI11.out.grown hgrow (fun k e => by have := (World.ownsRow.lt HOa.out k e).1; omega); have HO12 : Hid (OwnI h2 w12 (.slice (some ⟨g12, 0, none⟩) (A.length + 1) c12) (A ++ [x])) := ownI_app hown; have HF12 : Hid (OwnFF h2 w12 (.slice (some ⟨g8, 0, none⟩) (R.length + 1) c8) (R ++ [fl])) := HF11.out.other HOa.out (by decide) (by decide) hgrow; have HS12 : Hid (Same (q + 1) h2 wo w12) := HS11.out.trans (fun b _ h => hgrow.block b (by omega) (fun e => by have := (World.ownsRow.lt HOa.out b e.symm).1; omega)); have hq12 : h2 ≤ w12.heap.size := Nat.le_trans hqa hgrow.size; clear y0 y1 y2 y3 y4 y5 y6; obtain ⟨y0, y1, y2, y3, y4, y5, y6⟩ := HI12.out.box.cells; have yf6 := HI12.out.box.frz 6; clear hown hgrow)
                | (go_simp; refine (l1Below_any (w := w9.drew) HI9d.out.m.cur (N : Int) (by omega)).mono ?_; rintro e w10 ⟨x, rfl, _, hc10, ho10⟩; have HI10 : Hid (DwI B a n cap zs hi w Wn q (N : Int) (.slice (some ⟨b1, 0, none⟩) 3 3) (.slice a2 n2 c2) (.slice (some ⟨b3, 0, none⟩) 2 2) (.slice (some ⟨g8, 0, none⟩) (R.length + 1) c8) (.slice (some ⟨b5, 0, none⟩) 2 2) (.slice a6 n6 c6) w10) := HI9d.out.only hc10 ho10; have hs10 : w9.heap.size ≤ w10.heap.size := ho10.below.size; have hk10 : Same (q + 1) w9.heap.size w9 w10 := fun b h1 h2' => ho10.other b h2' (by omega); have HF10 : Hid (OwnFF h2 w10 (.slice (some ⟨g8, 0, none⟩) (R.length + 1) c8) (R ++ [fl])) := HF9.out.same (hk10.mono (by omega) (Nat.le_refl _)); have HO10 : Hid (OwnI h2 w10 (.slice a6 n6 c6) A) := ownI_same HO9.out (hk10.mono (by omega) (Nat.le_refl _)); have HS10 : Hid (Same (q + 1) h2 wo w10) := HS9.out.trans (hk10.mono (Nat.le_refl _) hq9); have HI11 : Hid (DwI B a n cap zs hi w Wn q (N : Int) (.slice (some ⟨b1, 0, none⟩) 3 3) (.slice a2 n2 c2) (.slice (some ⟨b3, 0, none⟩) 2 2) (.slice (some ⟨g8, 0, none⟩) (R.length + 1) c8) (.slice (some ⟨b5, 0, none⟩) 2 2) (.slice a6 n6 c6) (w10.alloc (.cells #[.int .i64 x] 3))) := HI10.out.alloc _; have HF11 : Hid (OwnFF h2 (w10.alloc (.cells #[.int .i64 x] 3)) (.slice (some ⟨g8, 0, none⟩) (R.length + 1) c8) (R ++ [fl])) := HF10.out.same (fun b _ h => allocOld h); have HOa : Hid (OwnI h2 (w10.alloc (.cells #[.int .i64 x] 3)) (.slice a6 n6 c6) A) := World.ownsRow.alloc HO10.out _; have HS11 : Hid (Same (q + 1) h2 wo (w10.alloc (.cells #[.int .i64 x] 3))) := HS10.out.trans (fun b _ h => allocOld (by omega)); have hqa : h2 ≤ ((w10.alloc (.cells #[.int .i64 x] 3))).heap.size := (by simp; omega); have HNw : Hid (∀ j u, [Value.int .i64 x][j]? = some u → ((w10.alloc (.cells #[.int .i64 x] 3))).cell? ((⟨w10.heap.size, 0, none⟩ : Addr).add j) = some u) := newsOne _ _ _; clear hc10 ho10 hk10 y0 y1 y2 y3 y4 y5 y6; obtain ⟨y0, y1, y2, y3, y4, y5, y6⟩ := HI10.out.box.cells; have hq10 : q < w10.heap.size := HI10.out.lt.2.2))
              | fail
              all_goals
                go_wp2_with fail
                go_roundw
                case rel =>
                  have hst : Same (q + 1) w12.heap.size w12 (w12.setCell ⟨q, 6, none⟩ (.slice (some ⟨g12, 0, none⟩) (A.length + 1) c12)) := fun b h1 _ => Below.heap_setCell _ _ _ _ (by show b ≠ q; omega)
                  exact ⟨k + 1, some ⟨g8, 0, none⟩, R.length + 1, c8, some ⟨g12, 0, none⟩, A.length + 1, c12, R ++ [fl], A ++ [x], by omega, by go_num, by rw [List.length_append, HR.out]; rfl, by rw [List.length_append, HA.out]; rfl, HI12.out.set6 _, HS12.out.trans (hst.mono (Nat.le_refl _) hq12), by simp; omega, HF12.out.same (hst.mono (by omega) (Nat.le_refl _)), ownI_same HO12.out (hst.mono (by omega) (Nat.le_refl _))⟩
                case measure => simp [intOf]; omega
        · have hk2 : k = 2 := by omega
          have hki : ¬ (k : Int) < 2 := by omega
          have hfin := HFin.out wp n2 c2 n4 c4 n6 c6 a2 a4 a6 L R A HIp.out (HF.out.same (by rw [← HH.out]; exact HSp.out)) (HFp.out.base (by omega)) (OwnI.mono0 HOp.out (by omega)) ⟨HLs.out, by rw [HR.out]; exact hk2, by rw [HA.out]; exact hk2, HLN.out⟩
          obtain ⟨hf1, hf2⟩ := hfin
          have HF1 : Hid _ := hf1
          obtain ⟨x0, x1, x2, x3, x4, x5, x6⟩ := hf2.cells
          obtain ⟨u0, u1, u2, u3, u4, u5, u6⟩ := HIp.out.m.box.cells
          have uf0 := HIp.out.m.box.frz 0
          have uf1 := HIp.out.m.box.frz 1
          have uf2 := HIp.out.m.box.frz 2
          have uf3 := HIp.out.m.box.frz 3
          have uf4 := HIp.out.m.box.frz 4
          have uf5 := HIp.out.m.box.frz 5
          have uf6 := HIp.out.m.box.frz 6
          clear hf1 hf2 hk hk2
          simp only [put7] at x0 x1 x2 x3 x4 x5 x6
          go_wp2
          refine bodyPost_ret (v := .agg #[.int .i64 N, .slice (some ⟨b1, 0, none⟩) 3 3, .slice a2 n2 c2, .slice (some ⟨b3, 0, none⟩) 2 2, .slice a4 n4 c4, .slice (some ⟨b5, 0, none⟩) 2 2, .slice a6 n6 c6]) (by simp [results, Tryz.results73, go_sem, x0, x1, x2, x3, x4, x5, x6]) rfl ?_
          exact HF1.out

end Go.Proofs.YtnmljalcndfjmaaGreat
