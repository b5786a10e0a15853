/- The literals of a part as text, as the document has them: a contract. -/
import Derived.Test.YtknainelonaigaaGreatDoorNTx
import Derived.Maps.AppendAt
namespace Go.Proofs.YtknainelonaigaaGreatDoor
open Go.RowKit

theorem own_allocT {base : Nat} {W : World} {v : Value} {xs : List Int} (h : OwnB base W v xs) (o : Obj) : ownsZ (W.alloc o) base 5 1 v xs.length (xs.map (Value.int .u8)) := OwnB.below h ((Below.refl W.heap.size W).alloc (Nat.le_refl _) _) (Nat.le_refl _)
theorem own_byteT {base : Nat} {W w2 : World} {v v' : Value} {xs : List Int} {c : Int} (hO : OwnB base W v xs) (hb : base ≤ W.heap.size)
    (hown : ownsZ w2 base 5 1 v' (xs.length + 1) (xs.map (Value.int .u8) ++ [.int .u8 c])) (hgrow : (W.alloc (.cells #[.int .u8 c] 5)).grownBy w2 v.ownBlock) : OwnB base w2 v' (xs ++ [c]) ∧ Keep5 base W w2 := by
  have h1 : OwnB base (W.alloc (.cells #[.int .u8 c] 5)) v xs := own_allocT hO _
  obtain ⟨a, b⟩ := ownB_app (ys := [c]) h1 (by simp; omega) hown hgrow
  exact ⟨a, (Keep5.of_below ((Below.refl W.heap.size W).alloc (Nat.le_refl _) _) hb).trans b⟩
theorem digT_bytz {n : Nat} (h : n < 100) : ∀ i, 0 ≤ (digT n).getD i 0 ∧ (digT n).getD i 0 ≤ 255 := by
  intro i
  by_cases hi : i < (digT n).length
  · rw [List.getD_eq_getElem?_getD, List.getElem?_eq_getElem hi]; exact digT_byt h _ (List.getElem_mem hi)
  · rw [List.getD_eq_getElem?_getD, List.getElem?_eq_none (by omega)]; simp
theorem BoxP.keep5 {W W' : World} {base b : Nat} {p n : Int} (h : BoxP 50 W b p n) (hk : Keep5 base W W') : BoxP 50 W' b p n := hk.2 b _ _ _ (by decide) h
def dashS : ByteArray := { data := #[32, 45] }
def dashW : List Int := [32, 45]
theorem dashW_eq : dashW = [32, 45] := rfl
theorem dashS_cells : Lib.strCells dashS = dashW.map (Value.int .u8) := rfl
theorem dashS_two : dashS.size = 2 := rfl
theorem dashS_size : dashS.size = dashW.length := rfl

set_option maxRecDepth 100000 in
set_option maxHeartbeats 8000000 in
theorem l5lits_any {base : Nat} {w : World} {v : Value} {xs : List Int} {p n : Nat} (of : ByteArray) (os : List Int) (hof : Lib.strCells of = os.map (Value.int .u8)) (hol : os.length ≤ 8) (hp : p < 16777216) (hn : n < 16777216) (hO : OwnB base w v xs) (hbw : base ≤ w.heap.size) (hl : xs.length ≤ 1000000) :
    Calls Tryz.prog 42 #[v, .agg #[.int .i64 (p : Nat), .int .i64 (n : Nat)], .string of] w fun e w' => ∃ v', e = .returned v' ∧ OwnB base w' v' (xs ++ litsW p n os 24) ∧ Keep5 base w w' := by
  obtain ⟨W0, hW0⟩ : ∃ W0, W0 = w.alloc (.cells #[.int .i64 (p : Nat), .int .i64 (n : Nat)] 50) := ⟨_, rfl⟩
  have HW0 : Hid (W0 = w.alloc (.cells #[.int .i64 (p : Nat), .int .i64 (n : Nat)] 50)) := hW0
  have hk0 : Keep5 base w W0 := by rw [hW0]; exact Keep5.of_below ((Below.refl _ _).alloc (Nat.le_refl _) _) hbw
  have HK0 : Hid (Keep5 base w W0) := hk0
  have hbx : BoxP 50 W0 w.heap.size (p : Nat) (n : Nat) := by rw [hW0]; exact BoxP.new _ w _ _
  have HBx : Hid (∀ V, Keep5 base W0 V → BoxP 50 V w.heap.size (p : Nat) (n : Nat)) := fun V hV => hbx.keep5 hV
  have HO0 : Hid (OwnB base W0 v xs) := by unfold Hid; rw [hW0]; exact own_allocT hO _
  have hb : base ≤ W0.heap.size := Nat.le_trans hbw hk0.1.size
  have HOf : Hid (Lib.strCells of = os.map (Value.int .u8)) := hof
  have hsz : of.size = os.length := by rw [← Lib.strCells_length, hof, List.length_map]
  obtain ⟨i0, hi0, hz0, hz1, hz2⟩ := info_parts Tryz.info5d
  clear hW0 hk0 hbx hO hof
  go_enter Tryz.func42, Tryz.ntmps42
  go_wp2_with fail
  rw [← HW0.out]
  go_loopw [0, 7] (fun v i wr => ∃ (k : Nat) (ou : Value), k ≤ 24 ∧ i = .int .i64 k ∧ ou = v ∧ OwnB base wr ou (xs ++ litsW p n os k) ∧ Keep5 base W0 wr) (fun _ i _ => 24 - (intOf i).toNat)
  case atStart => exact ⟨0, _, Nat.zero_le _, rfl, rfl, by simpa [litsW] using HO0.out, Keep5.refl _ _⟩
  case round =>
    obtain ⟨k, ou, hk, rfl, rfl, hJ, hkp⟩ := hrel
    obtain ⟨Z, hZ⟩ : ∃ Z, Z = xs ++ litsW p n os k := ⟨_, rfl⟩
    have HZ : Hid (Z = xs ++ litsW p n os k) := hZ
    have HJ : Hid (OwnB base wr ou Z ∧ Keep5 base W0 wr) := by rw [Hid, hZ]; exact ⟨hJ, hkp⟩
    have HZl : Hid (Z.length ≤ 1001000) := by
      have h1 := litsW_len p n os k
      have h2 : k * (7 + 2 * os.length) ≤ 24 * 23 := Nat.mul_le_mul hk (by omega)
      rw [Hid, hZ, List.length_append]
      omega
    obtain ⟨z0, z1⟩ := (HBx.out _ hkp).cells
    clear hJ hkp hZ
    by_cases hlt : k < 24
    · have hki : (k : Int) < 24 := by omega
      have hk100 : k < 100 := by omega
      have hdl := digT_len k
      have hbp := bit_at p k hp
      have hbn := bit_at n k hn
      cases hpb : p.testBit k
      · have HE : Hid (xs ++ litsW p n os (k + 1) = Z ++ (if n.testBit k = true then [32, 45] ++ digT k ++ os else [])) := by rw [Hid, litsW_no hpb, HZ.out]
        rw [hpb] at hbp
        cases hnb : n.testBit k
        · rw [hnb] at hbn HE
          simp only [Bool.false_eq_true, if_false, List.append_nil] at HE
          go_wp2_with fail
          go_roundw
          case rel => exact ⟨k + 1, ou, by omega, by go_num, rfl, by rw [HE.out]; exact HJ.out.1, HJ.out.2⟩
          case measure => simp [intOf]; omega
        · rw [hnb] at hbn HE
          simp only [if_true] at HE
          rw [← List.append_assoc, ← List.append_assoc, ← dashW_eq] at HE
          go_wp2_with (first
            | (at_builtin; refine listZ_str _ rfl (.tmp 32) (.const (.string dashS)) 28 9 rfl base 5 i0 Tryz.underlying28 Tryz.underlying9 hi0 hz0 hz1 hz2 ou Z.length (Z.map (Value.int .u8)) rfl HJ.out.1 dashS rfl (by have := HZl.out; have := dashS_size; have := dashS_two; unfold maxLen; omega) (by have := HZl.out; have := dashS_size; have := dashS_two; omega) (Nat.le_trans hb HJ.out.2.1.size) ?_; intro v5 w5 ho5 hg5 hn5; have HT5 : Hid (OwnB base w5 v5 (Z ++ dashW) ∧ Keep5 base W0 w5) := ⟨(ownB_app HJ.out.1 (Nat.le_trans hb HJ.out.2.1.size) (by rw [dashS_size, dashS_cells] at ho5; exact ho5) hg5).1, HJ.out.2.trans (ownB_app HJ.out.1 (Nat.le_trans hb HJ.out.2.1.size) (by rw [dashS_size, dashS_cells] at ho5; exact ho5) hg5).2⟩; clear ho5 hg5 hn5; obtain ⟨Z5, hZ5⟩ : ∃ Z5, Z5 = Z ++ dashW := ⟨_, rfl⟩; rw [← hZ5] at HT5 HE; have HL5 : Hid (Z5.length ≤ 1001008) := (by have := HZl.out; have : (dashW : List Int).length ≤ 8 := (by decide); rw [Hid, hZ5, List.length_append]; omega); clear hZ5)
            | (go_at_call 17; refine (l5digits_any hk100 _).mono ?_; rintro e w6 ⟨vd, rfl, hd6, hb6⟩; have HT6 : Hid (OwnB base w6 v5 Z5 ∧ Keep5 base W0 w6) := ⟨OwnB.below HT5.out.1 hb6 (Nat.le_refl _), HT5.out.2.trans (Keep5.of_below hb6 (Nat.le_trans hb HT5.out.2.1.size))⟩; obtain ⟨ga6, gc6, gb6, rfl, hgr6, hga6, _, _⟩ := hd6.form (digT_bytz hk100); obtain rfl := hga6.resolve_left (by omega); have HN6 : Hid (∀ j u, ((digT k).map (Value.int .u8))[j]? = some u → w6.cell? ((⟨gb6, 0, none⟩ : Addr).add j) = some u) := rd_news hgr6; clear hd6 hb6 hgr6)
            | (at_builtin; refine listZ _ rfl (.tmp 33) (.tmp 35) 28 rfl base 5 i0 (.int .u8 0) 1 1 Tryz.underlying28 hi0 hz0 hz1 hz2 rfl (by decide) v5 Z5.length (Z5.map (Value.int .u8)) rfl HT6.out.1 ⟨gb6, 0, none⟩ (digT k).length gc6 ((digT k).map (Value.int .u8)) rfl (by simp) HN6.out (oneCB _) (by have := HL5.out; unfold maxLen; omega) (by have := HL5.out; omega) (Nat.le_trans hb HT6.out.2.1.size) ?_; intro v7 w7 ho7 hg7 hn7; have HT7 : Hid (OwnB base w7 v7 (Z5 ++ digT k) ∧ Keep5 base W0 w7) := ⟨(ownB_app HT6.out.1 (Nat.le_trans hb HT6.out.2.1.size) ho7 hg7).1, HT6.out.2.trans (ownB_app HT6.out.1 (Nat.le_trans hb HT6.out.2.1.size) ho7 hg7).2⟩; clear ho7 hg7 hn7; obtain ⟨Z7, hZ7⟩ : ∃ Z7, Z7 = Z5 ++ digT k := ⟨_, rfl⟩; rw [← hZ7] at HT7 HE; have HL7 : Hid (Z7.length ≤ 1001016) := (by have := HL5.out; rw [Hid, hZ7, List.length_append]; omega); clear hZ7)
            | (at_builtin; refine listZ_str _ rfl (.tmp 36) (.tmp 37) 28 9 rfl base 5 i0 Tryz.underlying28 Tryz.underlying9 hi0 hz0 hz1 hz2 v7 Z7.length (Z7.map (Value.int .u8)) rfl HT7.out.1 of rfl (by have := HL7.out; have := hsz;  unfold maxLen; omega) (by have := HL7.out; have := hsz;  omega) (Nat.le_trans hb HT7.out.2.1.size) ?_; intro v8 w8 ho8 hg8 hn8; have HT8 : Hid (OwnB base w8 v8 (Z7 ++ os) ∧ Keep5 base W0 w8) := ⟨(ownB_app HT7.out.1 (Nat.le_trans hb HT7.out.2.1.size) (by rw [hsz, HOf.out] at ho8; exact ho8) hg8).1, HT7.out.2.trans (ownB_app HT7.out.1 (Nat.le_trans hb HT7.out.2.1.size) (by rw [hsz, HOf.out] at ho8; exact ho8) hg8).2⟩; clear ho8 hg8 hn8; obtain ⟨Z8, hZ8⟩ : ∃ Z8, Z8 = Z7 ++ os := ⟨_, rfl⟩; rw [← hZ8] at HT8 HE; have HL8 : Hid (Z8.length ≤ 1001024) := (by have := HL7.out; have : (os : List Int).length ≤ 8 := hol; rw [Hid, hZ8, List.length_append]; omega); clear hZ8)
            | fail)
          go_roundw
          case rel => exact ⟨k + 1, v8, by omega, by go_num, rfl, by rw [HE.out]; exact HT8.out.1, HT8.out.2⟩
          case measure => simp [intOf]; omega
      · have HE : Hid (xs ++ litsW p n os (k + 1) = Z ++ [32] ++ digT k ++ os ++ (if n.testBit k = true then [32, 45] ++ digT k ++ os else [])) := by rw [Hid, litsW_yes hpb, HZ.out]
        rw [hpb] at hbp
        go_upto_region 6 with (first
          | (at_builtin; refine listZ _ rfl (.tmp 18) (.tmp 19) 28 rfl base 5 i0 (.int .u8 0) 1 1 Tryz.underlying28 hi0 hz0 hz1 hz2 rfl (by decide) ou Z.length (Z.map (Value.int .u8)) rfl (own_allocT HJ.out.1 _) ⟨wr.heap.size, 0, none⟩ 1 1 [.int .u8 32] rfl rfl (cell_one_new _ _ _) (by simp [Value.oneCell']) (by have := HZl.out; unfold maxLen; omega) (by have := HZl.out; omega) (by have := HJ.out.2.1.size; simp; omega) ?_; intro v1 w1 ho1 hg1 hn1; have HT1 : Hid (OwnB base w1 v1 (Z ++ [32]) ∧ Keep5 base W0 w1) := ⟨(own_byteT HJ.out.1 (Nat.le_trans hb HJ.out.2.1.size) ho1 hg1).1, HJ.out.2.trans (own_byteT HJ.out.1 (Nat.le_trans hb HJ.out.2.1.size) ho1 hg1).2⟩; clear ho1 hg1 hn1; obtain ⟨Z1, hZ1⟩ : ∃ Z1, Z1 = Z ++ [32] := ⟨_, rfl⟩; rw [← hZ1] at HT1 HE; have HL1 : Hid (Z1.length ≤ 1001008) := (by have := HZl.out; rw [Hid, hZ1, List.length_append]; simp only [List.length_cons, List.length_nil]; omega); clear hZ1)
          | (go_at_call 17; refine (l5digits_any hk100 _).mono ?_; rintro e w2 ⟨vd, rfl, hd2, hb2⟩; have HT2 : Hid (OwnB base w2 v1 Z1 ∧ Keep5 base W0 w2) := ⟨OwnB.below HT1.out.1 hb2 (Nat.le_refl _), HT1.out.2.trans (Keep5.of_below hb2 (Nat.le_trans hb HT1.out.2.1.size))⟩; obtain ⟨ga2, gc2, gb2, rfl, hgr2, hga2, _, _⟩ := hd2.form (digT_bytz hk100); obtain rfl := hga2.resolve_left (by omega); have HN2 : Hid (∀ j u, ((digT k).map (Value.int .u8))[j]? = some u → w2.cell? ((⟨gb2, 0, none⟩ : Addr).add j) = some u) := rd_news hgr2; clear hd2 hb2 hgr2)
          | (at_builtin; refine listZ _ rfl (.tmp 20) (.tmp 22) 28 rfl base 5 i0 (.int .u8 0) 1 1 Tryz.underlying28 hi0 hz0 hz1 hz2 rfl (by decide) v1 Z1.length (Z1.map (Value.int .u8)) rfl HT2.out.1 ⟨gb2, 0, none⟩ (digT k).length gc2 ((digT k).map (Value.int .u8)) rfl (by simp) HN2.out (oneCB _) (by have := HL1.out; unfold maxLen; omega) (by have := HL1.out; omega) (Nat.le_trans hb HT2.out.2.1.size) ?_; intro v3 w3 ho3 hg3 hn3; have HT3 : Hid (OwnB base w3 v3 (Z1 ++ digT k) ∧ Keep5 base W0 w3) := ⟨(ownB_app HT2.out.1 (Nat.le_trans hb HT2.out.2.1.size) ho3 hg3).1, HT2.out.2.trans (ownB_app HT2.out.1 (Nat.le_trans hb HT2.out.2.1.size) ho3 hg3).2⟩; clear ho3 hg3 hn3; obtain ⟨Z3, hZ3⟩ : ∃ Z3, Z3 = Z1 ++ digT k := ⟨_, rfl⟩; rw [← hZ3] at HT3 HE; have HL3 : Hid (Z3.length ≤ 1001016) := (by have := HL1.out; rw [Hid, hZ3, List.length_append]; omega); clear hZ3)
          | (at_builtin; refine listZ_str _ rfl (.tmp 23) (.tmp 24) 28 9 rfl base 5 i0 Tryz.underlying28 Tryz.underlying9 hi0 hz0 hz1 hz2 v3 Z3.length (Z3.map (Value.int .u8)) rfl HT3.out.1 of rfl (by have := HL3.out; have := hsz;  unfold maxLen; omega) (by have := HL3.out; have := hsz;  omega) (Nat.le_trans hb HT3.out.2.1.size) ?_; intro v4 w4 ho4 hg4 hn4; have HT4 : Hid (OwnB base w4 v4 (Z3 ++ os) ∧ Keep5 base W0 w4) := ⟨(ownB_app HT3.out.1 (Nat.le_trans hb HT3.out.2.1.size) (by rw [hsz, HOf.out] at ho4; exact ho4) hg4).1, HT3.out.2.trans (ownB_app HT3.out.1 (Nat.le_trans hb HT3.out.2.1.size) (by rw [hsz, HOf.out] at ho4; exact ho4) hg4).2⟩; clear ho4 hg4 hn4; obtain ⟨Z4, hZ4⟩ : ∃ Z4, Z4 = Z3 ++ os := ⟨_, rfl⟩; rw [← hZ4] at HT4 HE; have HL4 : Hid (Z4.length ≤ 1001024) := (by have := HL3.out; have : (os : List Int).length ≤ 8 := hol; rw [Hid, hZ4, List.length_append]; omega); clear hZ4)
          | fail)
        clear z0 z1
        obtain ⟨z0, z1⟩ := (HBx.out _ HT4.out.2).cells
        cases hnb : n.testBit k
        · rw [hnb] at hbn HE
          simp only [Bool.false_eq_true, if_false, List.append_nil] at HE
          go_wp2_with fail
          go_roundw
          case rel => exact ⟨k + 1, v4, by omega, by go_num, rfl, by rw [HE.out]; exact HT4.out.1, HT4.out.2⟩
          case measure => simp [intOf]; omega
        · rw [hnb] at hbn HE
          simp only [if_true] at HE
          rw [← List.append_assoc, ← List.append_assoc, ← dashW_eq] at HE
          go_wp2_with (first
            | (at_builtin; refine listZ_str _ rfl (.tmp 32) (.const (.string dashS)) 28 9 rfl base 5 i0 Tryz.underlying28 Tryz.underlying9 hi0 hz0 hz1 hz2 v4 Z4.length (Z4.map (Value.int .u8)) rfl HT4.out.1 dashS rfl (by have := HL4.out; have := dashS_size; have := dashS_two; unfold maxLen; omega) (by have := HL4.out; have := dashS_size; have := dashS_two; omega) (Nat.le_trans hb HT4.out.2.1.size) ?_; intro v5 w5 ho5 hg5 hn5; have HT5 : Hid (OwnB base w5 v5 (Z4 ++ dashW) ∧ Keep5 base W0 w5) := ⟨(ownB_app HT4.out.1 (Nat.le_trans hb HT4.out.2.1.size) (by rw [dashS_size, dashS_cells] at ho5; exact ho5) hg5).1, HT4.out.2.trans (ownB_app HT4.out.1 (Nat.le_trans hb HT4.out.2.1.size) (by rw [dashS_size, dashS_cells] at ho5; exact ho5) hg5).2⟩; clear ho5 hg5 hn5; obtain ⟨Z5, hZ5⟩ : ∃ Z5, Z5 = Z4 ++ dashW := ⟨_, rfl⟩; rw [← hZ5] at HT5 HE; have HL5 : Hid (Z5.length ≤ 1001032) := (by have := HL4.out; have : (dashW : List Int).length ≤ 8 := (by decide); rw [Hid, hZ5, List.length_append]; omega); clear hZ5)
            | (go_at_call 17; refine (l5digits_any hk100 _).mono ?_; rintro e w6 ⟨vd, rfl, hd6, hb6⟩; have HT6 : Hid (OwnB base w6 v5 Z5 ∧ Keep5 base W0 w6) := ⟨OwnB.below HT5.out.1 hb6 (Nat.le_refl _), HT5.out.2.trans (Keep5.of_below hb6 (Nat.le_trans hb HT5.out.2.1.size))⟩; obtain ⟨ga6, gc6, gb6, rfl, hgr6, hga6, _, _⟩ := hd6.form (digT_bytz hk100); obtain rfl := hga6.resolve_left (by omega); have HN6 : Hid (∀ j u, ((digT k).map (Value.int .u8))[j]? = some u → w6.cell? ((⟨gb6, 0, none⟩ : Addr).add j) = some u) := rd_news hgr6; clear hd6 hb6 hgr6)
            | (at_builtin; refine listZ _ rfl (.tmp 33) (.tmp 35) 28 rfl base 5 i0 (.int .u8 0) 1 1 Tryz.underlying28 hi0 hz0 hz1 hz2 rfl (by decide) v5 Z5.length (Z5.map (Value.int .u8)) rfl HT6.out.1 ⟨gb6, 0, none⟩ (digT k).length gc6 ((digT k).map (Value.int .u8)) rfl (by simp) HN6.out (oneCB _) (by have := HL5.out; unfold maxLen; omega) (by have := HL5.out; omega) (Nat.le_trans hb HT6.out.2.1.size) ?_; intro v7 w7 ho7 hg7 hn7; have HT7 : Hid (OwnB base w7 v7 (Z5 ++ digT k) ∧ Keep5 base W0 w7) := ⟨(ownB_app HT6.out.1 (Nat.le_trans hb HT6.out.2.1.size) ho7 hg7).1, HT6.out.2.trans (ownB_app HT6.out.1 (Nat.le_trans hb HT6.out.2.1.size) ho7 hg7).2⟩; clear ho7 hg7 hn7; obtain ⟨Z7, hZ7⟩ : ∃ Z7, Z7 = Z5 ++ digT k := ⟨_, rfl⟩; rw [← hZ7] at HT7 HE; have HL7 : Hid (Z7.length ≤ 1001040) := (by have := HL5.out; rw [Hid, hZ7, List.length_append]; omega); clear hZ7)
            | (at_builtin; refine listZ_str _ rfl (.tmp 36) (.tmp 37) 28 9 rfl base 5 i0 Tryz.underlying28 Tryz.underlying9 hi0 hz0 hz1 hz2 v7 Z7.length (Z7.map (Value.int .u8)) rfl HT7.out.1 of rfl (by have := HL7.out; have := hsz;  unfold maxLen; omega) (by have := HL7.out; have := hsz;  omega) (Nat.le_trans hb HT7.out.2.1.size) ?_; intro v8 w8 ho8 hg8 hn8; have HT8 : Hid (OwnB base w8 v8 (Z7 ++ os) ∧ Keep5 base W0 w8) := ⟨(ownB_app HT7.out.1 (Nat.le_trans hb HT7.out.2.1.size) (by rw [hsz, HOf.out] at ho8; exact ho8) hg8).1, HT7.out.2.trans (ownB_app HT7.out.1 (Nat.le_trans hb HT7.out.2.1.size) (by rw [hsz, HOf.out] at ho8; exact ho8) hg8).2⟩; clear ho8 hg8 hn8; obtain ⟨Z8, hZ8⟩ : ∃ Z8, Z8 = Z7 ++ os := ⟨_, rfl⟩; rw [← hZ8] at HT8 HE; have HL8 : Hid (Z8.length ≤ 1001048) := (by have := HL7.out; have : (os : List Int).length ≤ 8 := hol; rw [Hid, hZ8, List.length_append]; omega); clear hZ8)
            | fail)
          go_roundw
          case rel => exact ⟨k + 1, v8, by omega, by go_num, rfl, by rw [HE.out]; exact HT8.out.1, HT8.out.2⟩
          case measure => simp [intOf]; omega
    · have hke : k = 24 := by omega
      have HE : Hid (xs ++ litsW p n os 24 = Z) := by rw [Hid, HZ.out, hke]
      have hki : ¬ (k : Int) < 24 := by omega
      clear hke
      go_wp2_with fail
      go_ret
      exact ⟨ou, rfl, by rw [HE.out]; exact HJ.out.1, HK0.out.trans HJ.out.2⟩

end Go.Proofs.YtknainelonaigaaGreatDoor
