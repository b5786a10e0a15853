/- The text of a fact, as the document has it: a contract. -/
import Derived.Test.YtknainelonaigaaGreatDoorClTxB
namespace Go.Proofs.YtknainelonaigaaGreatDoor
open Go.RowKit
set_option linter.unusedVariables false

theorem partsW_append : ∀ (xs ys : List (Nat × Nat)) (i : Nat), partsW i (xs ++ ys) = partsW i xs ++ partsW (i + xs.length) ys
  | [], ys, i => by simp [partsW]
  | x :: xs, ys, i => by
    rw [List.cons_append, partsW, partsW, partsW_append xs ys (i + 1), List.append_assoc, List.length_cons]
    congr 3
    omega
theorem partsW_take_succ (ps : List (Nat × Nat)) (i j : Nat) (hj : j < ps.length) : partsW i (ps.take (j + 1)) = partsW i (ps.take j) ++ litsW (ps.getD j (0, 0)).1 (ps.getD j (0, 0)).2 [markT.getD (i + j) 0] 24 := by
  have e : ps.take (j + 1) = ps.take j ++ [ps.getD j (0, 0)] := by
    rw [List.take_add_one, List.getD_eq_getElem?_getD, List.getElem?_eq_getElem hj]; simp
  rw [e, partsW_append, partsW, partsW, List.append_nil, List.length_take, show min j ps.length = j by omega]
theorem partsW_len : ∀ (xs : List (Nat × Nat)) (i : Nat), (partsW i xs).length ≤ 300 * xs.length
  | [], _ => by simp [partsW]
  | x :: xs, i => by
    have h1 := partsW_len xs (i + 1)
    have h2 := litsW_len x.1 x.2 [markT.getD i 0] 24
    simp only [List.length_cons, List.length_nil] at h2
    rw [partsW, List.length_append, List.length_cons]; omega
theorem getD_in {xs : List (Int × Int)} {j : Nat} (h : j < xs.length) : xs.getD j (0, 0) ∈ xs := by
  rw [List.getD_eq_getElem?_getD, List.getElem?_eq_getElem h]; simp
theorem Keep5.cellB {base hi b o : Nat} {w W2 V : World} (h : Keep5 base W2 V) (h2 : Below base w W2) (hh : hi ≤ base) (hb : b < hi) : V.cell? ⟨b, o, none⟩ = w.cell? ⟨b, o, none⟩ := World.cell?_of_block ((h.1.block b (by omega)).trans (h2.block b (by omega)))

set_option maxRecDepth 100000 in
set_option maxHeartbeats 8000000 in
theorem l5text_5 {fn rn un xp xn yp yn an bn : Nat} {ia : Option Addr} {ic : Nat} {w : World} (hfn : fn < 100) (hrn : rn < 100) (hun : un < 100) (han : an < 100) (hbn : bn < 100) (hxp : xp < 16777216) (hxn : xn < 16777216) (hyp : yp < 16777216) (hyn : yn < 16777216) {xs : List (Int × Int)} {lo hi : Nat} (hR : RP lo hi w ia 4 ic xs) (hhi : hi ≤ w.heap.size) (hpt : ∀ x ∈ xs, partB x.1 x.2 = true) :
    Calls Tryz.prog 19 #[.agg #[.int .i64 5, .int .i64 (fn : Nat), .int .i64 (rn : Nat), .int .i64 (un : Nat), .int .i64 (xp : Nat), .int .i64 (xn : Nat), .int .i64 (yp : Nat), .int .i64 (yn : Nat), .slice ia 4 ic, .int .i64 (an : Nat), .int .i64 (bn : Nat)]] w fun e w' => ∃ v, e = .returned v ∧ OwnB w.heap.size w' v (wdK 5 ++ numsK 5 fn rn un an bn ++ litsW xp xn [120] 24 ++ litsW yp yn [121] 24 ++ partsW 2 (natP xs)) ∧ Below w.heap.size w w' := by
  have HXl : Hid (xs.length = 4) := hR.len
  have HR0 : Hid (RP lo hi w ia 4 ic xs) := hR
  obtain ⟨b, off, rfl⟩ : ∃ b off, ia = some ⟨b, off, none⟩ := by
    rcases hR.cells with h0 | ⟨b, off, e, _⟩
    · omega
    · exact ⟨b, off, e⟩
  have HR : Hid (RP lo hi w (some ⟨b, off, none⟩) 4 ic xs) := hR
  obtain ⟨W0, hW0⟩ : ∃ W0, W0 = w.alloc (.cells #[.int .i64 5, .int .i64 (fn : Nat), .int .i64 (rn : Nat), .int .i64 (un : Nat), .int .i64 (xp : Nat), .int .i64 (xn : Nat), .int .i64 (yp : Nat), .int .i64 (yn : Nat), .slice (some ⟨b, off, none⟩) 4 ic, .int .i64 (an : Nat), .int .i64 (bn : Nat)] 53) := ⟨_, rfl⟩
  have HW0 : Hid (W0 = w.alloc (.cells #[.int .i64 5, .int .i64 (fn : Nat), .int .i64 (rn : Nat), .int .i64 (un : Nat), .int .i64 (xp : Nat), .int .i64 (xn : Nat), .int .i64 (yp : Nat), .int .i64 (yn : Nat), .slice (some ⟨b, off, none⟩) 4 ic, .int .i64 (an : Nat), .int .i64 (bn : Nat)] 53)) := hW0
  have hb0 : Below w.heap.size w W0 := by rw [hW0]; exact (Below.refl _ _).alloc (Nat.le_refl _) _
  have hkb : BoxK 53 W0 w.heap.size 5 (fn : Nat) (rn : Nat) (un : Nat) (xp : Nat) (xn : Nat) (yp : Nat) (yn : Nat) (.slice (some ⟨b, off, none⟩) 4 ic) (an : Nat) (bn : Nat) := by rw [hW0]; exact BoxK.new _ w _ _ _ _ _ _ _ _ _ _ _
  obtain ⟨W1, hW1⟩ : ∃ W1, W1 = W0.alloc (.cells #[.string { data := #[111, 110, 101] }, .string { data := #[110, 101, 120, 116] }, .string { data := #[101, 100, 103, 101] }, .string { data := #[97, 108, 108] }, .string { data := #[114, 111, 108, 101] }, .string { data := #[102, 97, 99, 116] }, .string { data := #[112, 97, 105, 114] }] 9) := ⟨_, rfl⟩
  have HW1 : Hid (W0.alloc (.cells #[.string { data := #[111, 110, 101] }, .string { data := #[110, 101, 120, 116] }, .string { data := #[101, 100, 103, 101] }, .string { data := #[97, 108, 108] }, .string { data := #[114, 111, 108, 101] }, .string { data := #[102, 97, 99, 116] }, .string { data := #[112, 97, 105, 114] }] 9) = W1) := hW1.symm
  have hb1 : Below W0.heap.size W0 W1 := by rw [hW1]; exact (Below.refl _ _).alloc (Nat.le_refl _) _
  have hkb1 := hkb.below hb1 hkb.lt
  have hss : W1.heap[W0.heap.size]? = some (.cells #[.string { data := #[111, 110, 101] }, .string { data := #[110, 101, 120, 116] }, .string { data := #[101, 100, 103, 101] }, .string { data := #[97, 108, 108] }, .string { data := #[114, 111, 108, 101] }, .string { data := #[102, 97, 99, 116] }, .string { data := #[112, 97, 105, 114] }] 9 (0, 0)) := by rw [hW1]; exact World.alloc_heap_new W0 _
  have ss : W1.cell? ⟨W0.heap.size, 5, none⟩ = some (.string { data := #[102, 97, 99, 116] }) := by simp [World.cell?, hss]
  have hs1 : w.heap.size ≤ W1.heap.size := Nat.le_trans hb0.size hb1.size
  obtain ⟨W2, hW2⟩ : ∃ W2, W2 = Lib.bytesWorld W1 5 { data := #[102, 97, 99, 116] } := ⟨_, rfl⟩
  obtain ⟨cp, hcp⟩ : ∃ cp, cp = grownCap W1 ({ data := #[102, 97, 99, 116] } : ByteArray).size 0 5 := ⟨_, rfl⟩
  have hcv : (convert 9 28 (.string { data := #[102, 97, 99, 116] })).run Tryz.prog W1 = .ok (.slice (some ⟨W1.heap.size, 0, none⟩) 4 cp) W2 := by
    rw [Lib.run_convert_string_bytes W1 9 28 5 { data := #[102, 97, 99, 116] } Tryz.underlying9 Tryz.underlying28 Tryz.underlying5, ← hW2, ← hcp]
    rfl
  have hb2 : Below W1.heap.size W1 W2 := by rw [hW2]; exact conv_below W1 5 _
  have hkb2 := hkb1.below hb2 hkb1.lt
  have HKb : Hid (∀ V, Keep5 w.heap.size W2 V → BoxK 53 V w.heap.size 5 (fn : Nat) (rn : Nat) (un : Nat) (xp : Nat) (xn : Nat) (yp : Nat) (yn : Nat) (.slice (some ⟨b, off, none⟩) 4 ic) (an : Nat) (bn : Nat)) := fun V hV => hkb2.keep5 hV
  have HB2 : Hid (Below w.heap.size w W2) := (hb0.trans (hb1.mono hb0.size)).trans (hb2.mono hs1)
  have hbB : w.heap.size ≤ W2.heap.size := HB2.out.size
  obtain ⟨Z2, hZ2⟩ : ∃ Z, Z = wdK 5 := ⟨_, rfl⟩
  have HZ2 : Hid (Z2 = wdK 5) := hZ2
  obtain ⟨v2, hv2⟩ : ∃ v, v = Value.slice (some ⟨W1.heap.size, 0, none⟩) 4 cp := ⟨_, rfl⟩
  have HT2 : Hid (OwnB w.heap.size W2 v2 Z2 ∧ Keep5 w.heap.size W2 W2) := by
    refine ⟨?_, Keep5.refl _ _⟩
    rw [hv2, hW2, hcp, hZ2]
    exact ownsZ_conv W1 w.heap.size 5 { data := #[102, 97, 99, 116] } hs1 (by unfold maxLen; decide)
  have HL2 : Hid (Z2.length ≤ 8) := by rw [Hid, hZ2]; decide
  rw [← hv2] at hcv
  obtain ⟨i0, hi0, hz0, hz1, hz2⟩ := info_parts Tryz.info5d
  have hdf := digT_len fn
  have hdr0 := digT_len rn
  have hdu := digT_len un
  have hda0 := digT_len an
  have hdb0 := digT_len bn
  obtain ⟨y0, y1, y2, y3, y4, y5, y6, y7, y8, y9, y10⟩ := hkb.cells
  obtain ⟨m0, m1, m2, m3, m4, m5, m6, m7, m8, m9, m10⟩ := hkb1.cells
  clear hR hW0 hW1 hW2 hb0 hb1 hb2 hkb hkb1 hkb2 hss hs1 hcp hZ2 hv2
  go_enter Tryz.func19, Tryz.ntmps19
  go_upto_region 1 with fail
  rw [← HW0.out]
  have h1 := HW1.out
  go_upto_region 2 with fail
  clear y0 y1 y2 y3 y4 y5 y6 y7 y8 y9 y10 m0 m1 m2 m3 m4 m5 m6 m7 m8 m9 m10 h1 ss hcv
  obtain ⟨y0, y1, y2, y3, y4, y5, y6, y7, y8, y9, y10⟩ := (HKb.out _ HT2.out.2).cells
  have HZE : Hid (Z2 = wdK 5 ++ numsK 5 fn rn un an bn) := by rw [Hid, HZ2.out]; simp [numsK, hasF, hasR, hasU, hasP]
  have HKd10 : Hid (W2.drew.cell? ⟨w.heap.size, 4, none⟩ = some (.int .i64 (xp : Nat)) ∧ W2.drew.cell? ⟨w.heap.size, 5, none⟩ = some (.int .i64 (xn : Nat)) ∧ W2.drew.cell? ⟨w.heap.size, 6, none⟩ = some (.int .i64 (yp : Nat)) ∧ W2.drew.cell? ⟨w.heap.size, 7, none⟩ = some (.int .i64 (yn : Nat))) := by have q := (HKb.out _ HT2.out.2).cells; exact ⟨q.2.2.2.2.1, q.2.2.2.2.2.1, q.2.2.2.2.2.2.1, q.2.2.2.2.2.2.2.1⟩
  have HHc10 : Hid (∀ V, Keep5 w.heap.size W2 V → V.cell? ⟨w.heap.size, 4, none⟩ = some (.int .i64 (xp : Nat)) ∧ V.cell? ⟨w.heap.size, 5, none⟩ = some (.int .i64 (xn : Nat)) ∧ V.cell? ⟨w.heap.size, 6, none⟩ = some (.int .i64 (yp : Nat)) ∧ V.cell? ⟨w.heap.size, 7, none⟩ = some (.int .i64 (yn : Nat))) := fun V hV => by have q := (HKb.out _ hV).cells; exact ⟨q.2.2.2.2.1, q.2.2.2.2.2.1, q.2.2.2.2.2.2.1, q.2.2.2.2.2.2.2.1⟩
  have HTd10 : Hid (OwnB w.heap.size W2.drew v2 Z2 ∧ Keep5 w.heap.size W2 W2.drew) := ⟨HT2.out.1, HT2.out.2.drew⟩
  have HLx : Hid ((Z2 ++ litsW xp xn [120] 24).length ≤ 1000000) := by
    have h1 := litsW_len xp xn [120] 24
    have h2 := HL2.out
    simp only [List.length_cons, List.length_nil] at h1
    rw [Hid, List.length_append]; omega
  have hLz : Z2.length ≤ 1000000 := by have := HL2.out; omega
  go_upto_region 10 with fail
  first
  | go_region_held3 (fun V => V.cell? ⟨w.heap.size, 4, none⟩ = some (.int .i64 (xp : Nat)) ∧ V.cell? ⟨w.heap.size, 5, none⟩ = some (.int .i64 (xn : Nat)) ∧ V.cell? ⟨w.heap.size, 6, none⟩ = some (.int .i64 (yp : Nat)) ∧ V.cell? ⟨w.heap.size, 7, none⟩ = some (.int .i64 (yn : Nat))) (first | with_reducible exact HKd10.out | with_reducible exact HHc10.out _ HT11.out.2 | with_reducible exact HHc10.out _ HT12.out.2) (first
    | (go_at_call_of 42 (Value.string ⟨#[120]⟩); refine (l5lits_any xS [120] xS_cells (by decide) hxp hxn HTd10.out.1 (Nat.le_trans hbB HTd10.out.2.1.size) hLz).mono ?_; rintro e w11 ⟨v11, rfl, h1, h2⟩; have HT11 : Hid (OwnB w.heap.size w11 v11 (Z2 ++ litsW xp xn [120] 24) ∧ Keep5 w.heap.size W2 w11) := ⟨h1, HTd10.out.2.trans h2⟩; clear h1 h2)
    | (go_at_call_of 42 (Value.string ⟨#[121]⟩); refine (l5lits_any yS [121] yS_cells (by decide) hyp hyn HT11.out.1 (Nat.le_trans hbB HT11.out.2.1.size) HLx.out).mono ?_; rintro e w12 ⟨v12, rfl, h1, h2⟩; have HT12 : Hid (OwnB w.heap.size w12 v12 (Z2 ++ litsW xp xn [120] 24 ++ litsW yp yn [121] 24) ∧ Keep5 w.heap.size W2 w12) := ⟨h1, HT11.out.2.trans h2⟩; clear h1 h2))
  | fail
  (try go_simp)
  obtain ⟨Z12, hZ12⟩ : ∃ Z, Z = Z2 ++ litsW xp xn [120] 24 ++ litsW yp yn [121] 24 := ⟨_, rfl⟩
  have HZ12 : Hid (Z12 = Z2 ++ litsW xp xn [120] 24 ++ litsW yp yn [121] 24) := hZ12
  have HTk : Hid (Tk w.heap.size W2 w12 v12 Z12) := by rw [Hid, hZ12]; exact HT12.out
  have HL12 : Hid (Z12.length ≤ 500000) := by
    have h1 := litsW_len xp xn [120] 24
    have h2 := litsW_len yp yn [121] 24
    have h3 := HL2.out
    simp only [List.length_cons, List.length_nil] at h1 h2
    rw [Hid, hZ12, List.length_append, List.length_append]; omega
  clear hZ12
  clear y0 y1 y2 y3 y4 y5 y6 y7 y8 y9 y10
  obtain ⟨y0, y1, y2, y3, y4, y5, y6, y7, y8, y9, y10⟩ := (HKb.out _ HT12.out.2).cells
  go_wp2_with fail
  rename World => wo
  go_loopw [3, 4] (fun v i wr => ∃ (k : Nat) (ou : Value), k ≤ 4 ∧ i = .int .i64 k ∧ ou = v ∧ Tk w.heap.size W2 wr ou (Z12 ++ partsW 2 ((natP xs).take k))) (fun _ i _ => 4 - (intOf i).toNat)
  case atStart => exact ⟨0, _, Nat.zero_le _, rfl, rfl, by simpa [partsW] using HTk.out⟩
  case round =>
    obtain ⟨k, ou, hk, rfl, rfl, hJ⟩ := hrel
    obtain ⟨Z, hZ⟩ : ∃ Z, Z = Z12 ++ partsW 2 ((natP xs).take k) := ⟨_, rfl⟩
    have HZ : Hid (Z = Z12 ++ partsW 2 ((natP xs).take k)) := hZ
    have HJ : Hid (Tk w.heap.size W2 wr ou Z) := by rw [Hid, hZ]; exact hJ
    have HZl : Hid (Z.length ≤ 1000000) := by
      have h1 := partsW_len ((natP xs).take k) 2
      have h2 : ((natP xs).take k).length ≤ 4 := by rw [List.length_take]; omega
      have h3 := HL12.out
      rw [Hid, hZ, List.length_append]; omega
    obtain ⟨y0, y1, y2, y3, y4, y5, y6, y7, y8, y9, y10⟩ := (HKb.out _ hJ.2).cells
    clear hJ hZ
    by_cases hlt : k < 4
    · have hk4 : k = 0 ∨ k = 1 ∨ k = 2 ∨ k = 3 := by omega
      clear hlt hk
      rcases hk4 with rfl | rfl | rfl | rfl
      · have ht := hpt (xs.getD 0 (0, 0)) (getD_in (by rw [HXl.out]; omega))
        obtain ⟨c0, c1, hbl⟩ := (HR.out).at (i := 0) (by omega)
        obtain ⟨t, hte⟩ : ∃ t, t = xs.getD 0 (0, 0) := ⟨_, rfl⟩
        rw [← hte] at ht c0 c1
        have HEt : Hid (partsW 2 ((natP xs).take (0 + 1)) = partsW 2 ((natP xs).take 0) ++ litsW t.1.toNat t.2.toNat [97] 24) := by
          rw [Hid, partsW_take_succ _ _ _ (by simp [natP, HXl.out]), natP_getD _ _ (by rw [HXl.out]; omega), ← hte]
          rfl
        obtain ⟨p, q⟩ := t
        simp only at c0 c1 HEt ht
        rw [partB_iff] at ht
        obtain ⟨pn, hpn⟩ := Int.eq_ofNat_of_zero_le ht.1.1
        obtain ⟨nn, hnn⟩ := Int.eq_ofNat_of_zero_le ht.2.1
        subst hpn hnn
        have hp24 : pn < 16777216 := by omega
        have hn24 : nn < 16777216 := by omega
        simp only [Int.toNat_natCast] at HEt
        have HKr : Hid (∀ V, Keep5 w.heap.size W2 V → V.cell? ⟨w.heap.size, 8, none⟩ = some (.slice (some ⟨b, off, none⟩) 4 ic) ∧ V.cell? ⟨b, off, none⟩ = some (.int .i64 (pn : Nat)) ∧ V.cell? ⟨b, off + 1, none⟩ = some (.int .i64 (nn : Nat))) := fun V hV => ⟨(HKb.out _ hV).cells.2.2.2.2.2.2.2.2.1, (hV.cellB HB2.out hhi hbl).trans c0, (hV.cellB HB2.out hhi hbl).trans c1⟩
        have HTd : Hid (Tk w.heap.size W2 wr.drew ou Z) := HJ.out.drew
        have HTa : Hid (Tk w.heap.size W2 (wr.alloc (.cells #[.string { data := #[97] }, .string { data := #[98] }, .string { data := #[99] }, .string { data := #[100] }] 9)).drew ou Z) := (HJ.out.alloc (Nat.le_trans hbB HJ.out.2.1.size) _).drew
        have HKd : Hid (wr.drew.cell? ⟨w.heap.size, 8, none⟩ = some (.slice (some ⟨b, off, none⟩) 4 ic) ∧ wr.drew.cell? ⟨b, off, none⟩ = some (.int .i64 (pn : Nat)) ∧ wr.drew.cell? ⟨b, off + 1, none⟩ = some (.int .i64 (nn : Nat))) := HKr.out _ HTd.out.2
        have HKa : Hid ((wr.alloc (.cells #[.string { data := #[97] }, .string { data := #[98] }, .string { data := #[99] }, .string { data := #[100] }] 9)).drew.cell? ⟨w.heap.size, 8, none⟩ = some (.slice (some ⟨b, off, none⟩) 4 ic) ∧ (wr.alloc (.cells #[.string { data := #[97] }, .string { data := #[98] }, .string { data := #[99] }, .string { data := #[100] }] 9)).drew.cell? ⟨b, off, none⟩ = some (.int .i64 (pn : Nat)) ∧ (wr.alloc (.cells #[.string { data := #[97] }, .string { data := #[98] }, .string { data := #[99] }, .string { data := #[100] }] 9)).drew.cell? ⟨b, off + 1, none⟩ = some (.int .i64 (nn : Nat))) := HKr.out _ HTa.out.2
        have hba : w.heap.size ≤ (wr.alloc (.cells #[.string { data := #[97] }, .string { data := #[98] }, .string { data := #[99] }, .string { data := #[100] }] 9)).drew.heap.size := Nat.le_trans hbB HTa.out.2.1.size
        have hZl : Z.length ≤ 1000000 := HZl.out
        clear hte c0 c1 ht hpt
        go_upto_region 14 with fail
        have q8 := (HKr.out _ HJ.out.2).1
        have q0 := (HKr.out _ HJ.out.2).2.1
        have q1 := (HKr.out _ HJ.out.2).2.2
        have hwr : w.heap.size < wr.heap.size := block_lt_of_cell q8
        have hbr : b < wr.heap.size := by omega
        have q2 : wr.cell? ⟨b, off + 1, none⟩ = some (.int .i64 (nn : Nat)) := q1
        first
        | go_region_with (go_at_call 42; refine (l5lits_any { data := #[97] } [97] rfl (by decide) hp24 hn24 HTa.out.1 hba hZl).mono ?_; rintro e w7 ⟨v7, rfl, h1, h2⟩; have HT7 : Hid (Tk w.heap.size W2 w7 v7 (Z ++ litsW pn nn [97] 24)) := ⟨h1, HTa.out.2.trans h2⟩; clear h1 h2)
        | fail
        all_goals
          (try go_simp)
          go_wp2_with fail
          go_roundw
          case rel => exact ⟨1, v7, by omega, by go_num, rfl, by rw [HEt.out, ← List.append_assoc, ← HZ.out]; exact HT7.out⟩
          case measure => simp [intOf]
      · have ht := hpt (xs.getD 1 (0, 0)) (getD_in (by rw [HXl.out]; omega))
        obtain ⟨c0, c1, hbl⟩ := (HR.out).at (i := 1) (by omega)
        obtain ⟨t, hte⟩ : ∃ t, t = xs.getD 1 (0, 0) := ⟨_, rfl⟩
        rw [← hte] at ht c0 c1
        have HEt : Hid (partsW 2 ((natP xs).take (1 + 1)) = partsW 2 ((natP xs).take 1) ++ litsW t.1.toNat t.2.toNat [98] 24) := by
          rw [Hid, partsW_take_succ _ _ _ (by simp [natP, HXl.out]), natP_getD _ _ (by rw [HXl.out]; omega), ← hte]
          rfl
        obtain ⟨p, q⟩ := t
        simp only at c0 c1 HEt ht
        rw [partB_iff] at ht
        obtain ⟨pn, hpn⟩ := Int.eq_ofNat_of_zero_le ht.1.1
        obtain ⟨nn, hnn⟩ := Int.eq_ofNat_of_zero_le ht.2.1
        subst hpn hnn
        have hp24 : pn < 16777216 := by omega
        have hn24 : nn < 16777216 := by omega
        simp only [Int.toNat_natCast] at HEt
        have HKr : Hid (∀ V, Keep5 w.heap.size W2 V → V.cell? ⟨w.heap.size, 8, none⟩ = some (.slice (some ⟨b, off, none⟩) 4 ic) ∧ V.cell? ⟨b, off + 2, none⟩ = some (.int .i64 (pn : Nat)) ∧ V.cell? ⟨b, off + 3, none⟩ = some (.int .i64 (nn : Nat))) := fun V hV => ⟨(HKb.out _ hV).cells.2.2.2.2.2.2.2.2.1, (hV.cellB HB2.out hhi hbl).trans c0, (hV.cellB HB2.out hhi hbl).trans c1⟩
        have HTd : Hid (Tk w.heap.size W2 wr.drew ou Z) := HJ.out.drew
        have HTa : Hid (Tk w.heap.size W2 (wr.alloc (.cells #[.string { data := #[97] }, .string { data := #[98] }, .string { data := #[99] }, .string { data := #[100] }] 9)).drew ou Z) := (HJ.out.alloc (Nat.le_trans hbB HJ.out.2.1.size) _).drew
        have HKd : Hid (wr.drew.cell? ⟨w.heap.size, 8, none⟩ = some (.slice (some ⟨b, off, none⟩) 4 ic) ∧ wr.drew.cell? ⟨b, off + 2, none⟩ = some (.int .i64 (pn : Nat)) ∧ wr.drew.cell? ⟨b, off + 3, none⟩ = some (.int .i64 (nn : Nat))) := HKr.out _ HTd.out.2
        have HKa : Hid ((wr.alloc (.cells #[.string { data := #[97] }, .string { data := #[98] }, .string { data := #[99] }, .string { data := #[100] }] 9)).drew.cell? ⟨w.heap.size, 8, none⟩ = some (.slice (some ⟨b, off, none⟩) 4 ic) ∧ (wr.alloc (.cells #[.string { data := #[97] }, .string { data := #[98] }, .string { data := #[99] }, .string { data := #[100] }] 9)).drew.cell? ⟨b, off + 2, none⟩ = some (.int .i64 (pn : Nat)) ∧ (wr.alloc (.cells #[.string { data := #[97] }, .string { data := #[98] }, .string { data := #[99] }, .string { data := #[100] }] 9)).drew.cell? ⟨b, off + 3, none⟩ = some (.int .i64 (nn : Nat))) := HKr.out _ HTa.out.2
        have hba : w.heap.size ≤ (wr.alloc (.cells #[.string { data := #[97] }, .string { data := #[98] }, .string { data := #[99] }, .string { data := #[100] }] 9)).drew.heap.size := Nat.le_trans hbB HTa.out.2.1.size
        have hZl : Z.length ≤ 1000000 := HZl.out
        clear hte c0 c1 ht hpt
        go_upto_region 14 with fail
        have q8 := (HKr.out _ HJ.out.2).1
        have q0 := (HKr.out _ HJ.out.2).2.1
        have q1 := (HKr.out _ HJ.out.2).2.2
        have hwr : w.heap.size < wr.heap.size := block_lt_of_cell q8
        have hbr : b < wr.heap.size := by omega
        have q2 : wr.cell? ⟨b, off + 2 + 1, none⟩ = some (.int .i64 (nn : Nat)) := q1
        first
        | go_region_with (go_at_call 42; refine (l5lits_any { data := #[98] } [98] rfl (by decide) hp24 hn24 HTa.out.1 hba hZl).mono ?_; rintro e w7 ⟨v7, rfl, h1, h2⟩; have HT7 : Hid (Tk w.heap.size W2 w7 v7 (Z ++ litsW pn nn [98] 24)) := ⟨h1, HTa.out.2.trans h2⟩; clear h1 h2)
        | fail
        all_goals
          (try go_simp)
          go_wp2_with fail
          go_roundw
          case rel => exact ⟨2, v7, by omega, by go_num, rfl, by rw [HEt.out, ← List.append_assoc, ← HZ.out]; exact HT7.out⟩
          case measure => simp [intOf]
      · have ht := hpt (xs.getD 2 (0, 0)) (getD_in (by rw [HXl.out]; omega))
        obtain ⟨c0, c1, hbl⟩ := (HR.out).at (i := 2) (by omega)
        obtain ⟨t, hte⟩ : ∃ t, t = xs.getD 2 (0, 0) := ⟨_, rfl⟩
        rw [← hte] at ht c0 c1
        have HEt : Hid (partsW 2 ((natP xs).take (2 + 1)) = partsW 2 ((natP xs).take 2) ++ litsW t.1.toNat t.2.toNat [99] 24) := by
          rw [Hid, partsW_take_succ _ _ _ (by simp [natP, HXl.out]), natP_getD _ _ (by rw [HXl.out]; omega), ← hte]
          rfl
        obtain ⟨p, q⟩ := t
        simp only at c0 c1 HEt ht
        rw [partB_iff] at ht
        obtain ⟨pn, hpn⟩ := Int.eq_ofNat_of_zero_le ht.1.1
        obtain ⟨nn, hnn⟩ := Int.eq_ofNat_of_zero_le ht.2.1
        subst hpn hnn
        have hp24 : pn < 16777216 := by omega
        have hn24 : nn < 16777216 := by omega
        simp only [Int.toNat_natCast] at HEt
        have HKr : Hid (∀ V, Keep5 w.heap.size W2 V → V.cell? ⟨w.heap.size, 8, none⟩ = some (.slice (some ⟨b, off, none⟩) 4 ic) ∧ V.cell? ⟨b, off + 4, none⟩ = some (.int .i64 (pn : Nat)) ∧ V.cell? ⟨b, off + 5, none⟩ = some (.int .i64 (nn : Nat))) := fun V hV => ⟨(HKb.out _ hV).cells.2.2.2.2.2.2.2.2.1, (hV.cellB HB2.out hhi hbl).trans c0, (hV.cellB HB2.out hhi hbl).trans c1⟩
        have HTd : Hid (Tk w.heap.size W2 wr.drew ou Z) := HJ.out.drew
        have HTa : Hid (Tk w.heap.size W2 (wr.alloc (.cells #[.string { data := #[97] }, .string { data := #[98] }, .string { data := #[99] }, .string { data := #[100] }] 9)).drew ou Z) := (HJ.out.alloc (Nat.le_trans hbB HJ.out.2.1.size) _).drew
        have HKd : Hid (wr.drew.cell? ⟨w.heap.size, 8, none⟩ = some (.slice (some ⟨b, off, none⟩) 4 ic) ∧ wr.drew.cell? ⟨b, off + 4, none⟩ = some (.int .i64 (pn : Nat)) ∧ wr.drew.cell? ⟨b, off + 5, none⟩ = some (.int .i64 (nn : Nat))) := HKr.out _ HTd.out.2
        have HKa : Hid ((wr.alloc (.cells #[.string { data := #[97] }, .string { data := #[98] }, .string { data := #[99] }, .string { data := #[100] }] 9)).drew.cell? ⟨w.heap.size, 8, none⟩ = some (.slice (some ⟨b, off, none⟩) 4 ic) ∧ (wr.alloc (.cells #[.string { data := #[97] }, .string { data := #[98] }, .string { data := #[99] }, .string { data := #[100] }] 9)).drew.cell? ⟨b, off + 4, none⟩ = some (.int .i64 (pn : Nat)) ∧ (wr.alloc (.cells #[.string { data := #[97] }, .string { data := #[98] }, .string { data := #[99] }, .string { data := #[100] }] 9)).drew.cell? ⟨b, off + 5, none⟩ = some (.int .i64 (nn : Nat))) := HKr.out _ HTa.out.2
        have hba : w.heap.size ≤ (wr.alloc (.cells #[.string { data := #[97] }, .string { data := #[98] }, .string { data := #[99] }, .string { data := #[100] }] 9)).drew.heap.size := Nat.le_trans hbB HTa.out.2.1.size
        have hZl : Z.length ≤ 1000000 := HZl.out
        clear hte c0 c1 ht hpt
        go_upto_region 14 with fail
        have q8 := (HKr.out _ HJ.out.2).1
        have q0 := (HKr.out _ HJ.out.2).2.1
        have q1 := (HKr.out _ HJ.out.2).2.2
        have hwr : w.heap.size < wr.heap.size := block_lt_of_cell q8
        have hbr : b < wr.heap.size := by omega
        have q2 : wr.cell? ⟨b, off + 4 + 1, none⟩ = some (.int .i64 (nn : Nat)) := q1
        first
        | go_region_with (go_at_call 42; refine (l5lits_any { data := #[99] } [99] rfl (by decide) hp24 hn24 HTa.out.1 hba hZl).mono ?_; rintro e w7 ⟨v7, rfl, h1, h2⟩; have HT7 : Hid (Tk w.heap.size W2 w7 v7 (Z ++ litsW pn nn [99] 24)) := ⟨h1, HTa.out.2.trans h2⟩; clear h1 h2)
        | fail
        all_goals
          (try go_simp)
          go_wp2_with fail
          go_roundw
          case rel => exact ⟨3, v7, by omega, by go_num, rfl, by rw [HEt.out, ← List.append_assoc, ← HZ.out]; exact HT7.out⟩
          case measure => simp [intOf]
      · have ht := hpt (xs.getD 3 (0, 0)) (getD_in (by rw [HXl.out]; omega))
        obtain ⟨c0, c1, hbl⟩ := (HR.out).at (i := 3) (by omega)
        obtain ⟨t, hte⟩ : ∃ t, t = xs.getD 3 (0, 0) := ⟨_, rfl⟩
        rw [← hte] at ht c0 c1
        have HEt : Hid (partsW 2 ((natP xs).take (3 + 1)) = partsW 2 ((natP xs).take 3) ++ litsW t.1.toNat t.2.toNat [100] 24) := by
          rw [Hid, partsW_take_succ _ _ _ (by simp [natP, HXl.out]), natP_getD _ _ (by rw [HXl.out]; omega), ← hte]
          rfl
        obtain ⟨p, q⟩ := t
        simp only at c0 c1 HEt ht
        rw [partB_iff] at ht
        obtain ⟨pn, hpn⟩ := Int.eq_ofNat_of_zero_le ht.1.1
        obtain ⟨nn, hnn⟩ := Int.eq_ofNat_of_zero_le ht.2.1
        subst hpn hnn
        have hp24 : pn < 16777216 := by omega
        have hn24 : nn < 16777216 := by omega
        simp only [Int.toNat_natCast] at HEt
        have HKr : Hid (∀ V, Keep5 w.heap.size W2 V → V.cell? ⟨w.heap.size, 8, none⟩ = some (.slice (some ⟨b, off, none⟩) 4 ic) ∧ V.cell? ⟨b, off + 6, none⟩ = some (.int .i64 (pn : Nat)) ∧ V.cell? ⟨b, off + 7, none⟩ = some (.int .i64 (nn : Nat))) := fun V hV => ⟨(HKb.out _ hV).cells.2.2.2.2.2.2.2.2.1, (hV.cellB HB2.out hhi hbl).trans c0, (hV.cellB HB2.out hhi hbl).trans c1⟩
        have HTd : Hid (Tk w.heap.size W2 wr.drew ou Z) := HJ.out.drew
        have HTa : Hid (Tk w.heap.size W2 (wr.alloc (.cells #[.string { data := #[97] }, .string { data := #[98] }, .string { data := #[99] }, .string { data := #[100] }] 9)).drew ou Z) := (HJ.out.alloc (Nat.le_trans hbB HJ.out.2.1.size) _).drew
        have HKd : Hid (wr.drew.cell? ⟨w.heap.size, 8, none⟩ = some (.slice (some ⟨b, off, none⟩) 4 ic) ∧ wr.drew.cell? ⟨b, off + 6, none⟩ = some (.int .i64 (pn : Nat)) ∧ wr.drew.cell? ⟨b, off + 7, none⟩ = some (.int .i64 (nn : Nat))) := HKr.out _ HTd.out.2
        have HKa : Hid ((wr.alloc (.cells #[.string { data := #[97] }, .string { data := #[98] }, .string { data := #[99] }, .string { data := #[100] }] 9)).drew.cell? ⟨w.heap.size, 8, none⟩ = some (.slice (some ⟨b, off, none⟩) 4 ic) ∧ (wr.alloc (.cells #[.string { data := #[97] }, .string { data := #[98] }, .string { data := #[99] }, .string { data := #[100] }] 9)).drew.cell? ⟨b, off + 6, none⟩ = some (.int .i64 (pn : Nat)) ∧ (wr.alloc (.cells #[.string { data := #[97] }, .string { data := #[98] }, .string { data := #[99] }, .string { data := #[100] }] 9)).drew.cell? ⟨b, off + 7, none⟩ = some (.int .i64 (nn : Nat))) := HKr.out _ HTa.out.2
        have hba : w.heap.size ≤ (wr.alloc (.cells #[.string { data := #[97] }, .string { data := #[98] }, .string { data := #[99] }, .string { data := #[100] }] 9)).drew.heap.size := Nat.le_trans hbB HTa.out.2.1.size
        have hZl : Z.length ≤ 1000000 := HZl.out
        clear hte c0 c1 ht hpt
        go_upto_region 14 with fail
        have q8 := (HKr.out _ HJ.out.2).1
        have q0 := (HKr.out _ HJ.out.2).2.1
        have q1 := (HKr.out _ HJ.out.2).2.2
        have hwr : w.heap.size < wr.heap.size := block_lt_of_cell q8
        have hbr : b < wr.heap.size := by omega
        have q2 : wr.cell? ⟨b, off + 6 + 1, none⟩ = some (.int .i64 (nn : Nat)) := q1
        first
        | go_region_with (go_at_call 42; refine (l5lits_any { data := #[100] } [100] rfl (by decide) hp24 hn24 HTa.out.1 hba hZl).mono ?_; rintro e w7 ⟨v7, rfl, h1, h2⟩; have HT7 : Hid (Tk w.heap.size W2 w7 v7 (Z ++ litsW pn nn [100] 24)) := ⟨h1, HTa.out.2.trans h2⟩; clear h1 h2)
        | fail
        all_goals
          (try go_simp)
          go_wp2_with fail
          go_roundw
          case rel => exact ⟨4, v7, by omega, by go_num, rfl, by rw [HEt.out, ← List.append_assoc, ← HZ.out]; exact HT7.out⟩
          case measure => simp [intOf]
    · have hk4 : k = 4 := by omega
      have HF : Hid (Z = Z12 ++ partsW 2 (natP xs)) := by rw [Hid, HZ.out, hk4, List.take_of_length_le (by simp [natP, HXl.out])]
      clear hk4
      go_wp2_with fail
      go_ret
      refine ⟨_, rfl, ?_, HB2.out.trans HJ.out.2.1⟩
      rw [show wdK 5 ++ numsK 5 fn rn un an bn = Z2 from by rw [HZE.out], ← HZ12.out, ← HF.out]
      exact HJ.out.1

end Go.Proofs.YtknainelonaigaaGreatDoor
