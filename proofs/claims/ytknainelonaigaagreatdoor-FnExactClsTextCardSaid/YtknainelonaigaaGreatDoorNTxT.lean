/- Several texts in one: ClTxT1, ClTxT0, ClTxT2, ClTxT3, ClTxT4. -/
import Derived.Test.YtknainelonaigaaGreatDoorClTxB
namespace Go.Proofs.YtknainelonaigaaGreatDoor

section
open Go.RowKit
set_option linter.unusedVariables false

set_option maxRecDepth 100000 in
set_option maxHeartbeats 8000000 in
theorem l5text_1 {fn rn un xp xn yp yn an bn : Nat} {ia : Option Addr} {ic : Nat} {w : World} (hfn : fn < 100) (hrn : rn < 100) (hun : un < 100) (han : an < 100) (hbn : bn < 100) (hxp : xp < 16777216) (hxn : xn < 16777216) (hyp : yp < 16777216) (hyn : yn < 16777216) :
    Calls Tryz.prog 19 #[.agg #[.int .i64 1, .int .i64 (fn : Nat), .int .i64 (rn : Nat), .int .i64 (un : Nat), .int .i64 (xp : Nat), .int .i64 (xn : Nat), .int .i64 (yp : Nat), .int .i64 (yn : Nat), .slice ia 0 ic, .int .i64 (an : Nat), .int .i64 (bn : Nat)]] w fun e w' => ∃ v, e = .returned v ∧ OwnB w.heap.size w' v (wdK 1 ++ numsK 1 fn rn un an bn ++ litsW xp xn [120] 24 ++ litsW yp yn [121] 24) ∧ Below w.heap.size w w' := by
  obtain ⟨W0, hW0⟩ : ∃ W0, W0 = w.alloc (.cells #[.int .i64 1, .int .i64 (fn : Nat), .int .i64 (rn : Nat), .int .i64 (un : Nat), .int .i64 (xp : Nat), .int .i64 (xn : Nat), .int .i64 (yp : Nat), .int .i64 (yn : Nat), .slice ia 0 ic, .int .i64 (an : Nat), .int .i64 (bn : Nat)] 53) := ⟨_, rfl⟩
  have HW0 : Hid (W0 = w.alloc (.cells #[.int .i64 1, .int .i64 (fn : Nat), .int .i64 (rn : Nat), .int .i64 (un : Nat), .int .i64 (xp : Nat), .int .i64 (xn : Nat), .int .i64 (yp : Nat), .int .i64 (yn : Nat), .slice ia 0 ic, .int .i64 (an : Nat), .int .i64 (bn : Nat)] 53)) := hW0
  have hb0 : Below w.heap.size w W0 := by rw [hW0]; exact (Below.refl _ _).alloc (Nat.le_refl _) _
  have hkb : BoxK 53 W0 w.heap.size 1 (fn : Nat) (rn : Nat) (un : Nat) (xp : Nat) (xn : Nat) (yp : Nat) (yn : Nat) (.slice ia 0 ic) (an : Nat) (bn : Nat) := by rw [hW0]; exact BoxK.new _ w _ _ _ _ _ _ _ _ _ _ _
  obtain ⟨W1, hW1⟩ : ∃ W1, W1 = W0.alloc (.cells #[.string { data := #[111, 110, 101] }, .string { data := #[110, 101, 120, 116] }, .string { data := #[101, 100, 103, 101] }, .string { data := #[97, 108, 108] }, .string { data := #[114, 111, 108, 101] }, .string { data := #[102, 97, 99, 116] }, .string { data := #[112, 97, 105, 114] }] 9) := ⟨_, rfl⟩
  have HW1 : Hid (W0.alloc (.cells #[.string { data := #[111, 110, 101] }, .string { data := #[110, 101, 120, 116] }, .string { data := #[101, 100, 103, 101] }, .string { data := #[97, 108, 108] }, .string { data := #[114, 111, 108, 101] }, .string { data := #[102, 97, 99, 116] }, .string { data := #[112, 97, 105, 114] }] 9) = W1) := hW1.symm
  have hb1 : Below W0.heap.size W0 W1 := by rw [hW1]; exact (Below.refl _ _).alloc (Nat.le_refl _) _
  have hkb1 := hkb.below hb1 hkb.lt
  have hss : W1.heap[W0.heap.size]? = some (.cells #[.string { data := #[111, 110, 101] }, .string { data := #[110, 101, 120, 116] }, .string { data := #[101, 100, 103, 101] }, .string { data := #[97, 108, 108] }, .string { data := #[114, 111, 108, 101] }, .string { data := #[102, 97, 99, 116] }, .string { data := #[112, 97, 105, 114] }] 9 (0, 0)) := by rw [hW1]; exact World.alloc_heap_new W0 _
  have ss : W1.cell? ⟨W0.heap.size, 1, none⟩ = some (.string { data := #[110, 101, 120, 116] }) := by simp [World.cell?, hss]
  have hs1 : w.heap.size ≤ W1.heap.size := Nat.le_trans hb0.size hb1.size
  obtain ⟨W2, hW2⟩ : ∃ W2, W2 = Lib.bytesWorld W1 5 { data := #[110, 101, 120, 116] } := ⟨_, rfl⟩
  obtain ⟨cp, hcp⟩ : ∃ cp, cp = grownCap W1 ({ data := #[110, 101, 120, 116] } : ByteArray).size 0 5 := ⟨_, rfl⟩
  have hcv : (convert 9 28 (.string { data := #[110, 101, 120, 116] })).run Tryz.prog W1 = .ok (.slice (some ⟨W1.heap.size, 0, none⟩) 4 cp) W2 := by
    rw [Lib.run_convert_string_bytes W1 9 28 5 { data := #[110, 101, 120, 116] } Tryz.underlying9 Tryz.underlying28 Tryz.underlying5, ← hW2, ← hcp]
    rfl
  have hb2 : Below W1.heap.size W1 W2 := by rw [hW2]; exact conv_below W1 5 _
  have hkb2 := hkb1.below hb2 hkb1.lt
  have HKb : Hid (∀ V, Keep5 w.heap.size W2 V → BoxK 53 V w.heap.size 1 (fn : Nat) (rn : Nat) (un : Nat) (xp : Nat) (xn : Nat) (yp : Nat) (yn : Nat) (.slice ia 0 ic) (an : Nat) (bn : Nat)) := fun V hV => hkb2.keep5 hV
  have HB2 : Hid (Below w.heap.size w W2) := (hb0.trans (hb1.mono hb0.size)).trans (hb2.mono hs1)
  have hbB : w.heap.size ≤ W2.heap.size := HB2.out.size
  obtain ⟨Z2, hZ2⟩ : ∃ Z, Z = wdK 1 := ⟨_, rfl⟩
  have HZ2 : Hid (Z2 = wdK 1) := hZ2
  obtain ⟨v2, hv2⟩ : ∃ v, v = Value.slice (some ⟨W1.heap.size, 0, none⟩) 4 cp := ⟨_, rfl⟩
  have HT2 : Hid (OwnB w.heap.size W2 v2 Z2 ∧ Keep5 w.heap.size W2 W2) := by
    refine ⟨?_, Keep5.refl _ _⟩
    rw [hv2, hW2, hcp, hZ2]
    exact ownsZ_conv W1 w.heap.size 5 { data := #[110, 101, 120, 116] } hs1 (by unfold maxLen; decide)
  have HL2 : Hid (Z2.length ≤ 8) := by rw [Hid, hZ2]; decide
  rw [← hv2] at hcv
  obtain ⟨i0, hi0, hz0, hz1, hz2⟩ := info_parts Tryz.info5d
  have hdf := digT_len fn
  have hdr0 := digT_len rn
  have hdu := digT_len un
  have hda0 := digT_len an
  have hdb0 := digT_len bn
  obtain ⟨y0, y1, y2, y3, y4, y5, y6, y7, y8, y9, y10⟩ := hkb.cells
  obtain ⟨m0, m1, m2, m3, m4, m5, m6, m7, m8, m9, m10⟩ := hkb1.cells
  clear hW0 hW1 hW2 hb0 hb1 hb2 hkb hkb1 hkb2 hss hs1 hcp hZ2 hv2
  go_enter Tryz.func19, Tryz.ntmps19
  go_upto_region 1 with fail
  rw [← HW0.out]
  have h1 := HW1.out
  go_upto_region 2 with fail
  clear y0 y1 y2 y3 y4 y5 y6 y7 y8 y9 y10 m0 m1 m2 m3 m4 m5 m6 m7 m8 m9 m10 h1 ss hcv
  obtain ⟨y0, y1, y2, y3, y4, y5, y6, y7, y8, y9, y10⟩ := (HKb.out _ HT2.out.2).cells
  have HKd3 : Hid (W2.drew.cell? ⟨w.heap.size, 1, none⟩ = some (.int .i64 (fn : Nat))) := by have q := (HKb.out _ HT2.out.2).cells; exact q.2.1
  have HTd3 : Hid (OwnB w.heap.size W2.drew v2 Z2 ∧ Keep5 w.heap.size W2 W2.drew) := ⟨HT2.out.1, HT2.out.2.drew⟩
  have HHc3 : Hid (∀ V, Keep5 w.heap.size W2 V → V.cell? ⟨w.heap.size, 1, none⟩ = some (.int .i64 (fn : Nat))) := fun V hV => by have q := (HKb.out _ hV).cells; exact q.2.1
  go_upto_region 3 with fail
  first
  | go_region_held3 (fun V => V.cell? ⟨w.heap.size, 1, none⟩ = some (.int .i64 (fn : Nat))) (first | with_reducible exact HKd3.out | with_reducible exact HHc3.out _ HA3.out.2 | with_reducible exact HHc3.out _ HC3.out.2 | with_reducible exact HHc3.out _ HT3.out.2) (first
    | (refine step_append_strAt rfl (.tmp 19) (.const (.string fS)) 28 9 rfl w.heap.size 5 i0 Tryz.underlying28 Tryz.underlying9 hi0 hz0 hz1 hz2 v2 Z2.length (Z2.map (Value.int .u8)) (by simp [Act.eval]) (HTd3.out.1 : OwnB w.heap.size W2.drew v2 Z2) fS rfl (by have := HL2.out; have := fS_size; have := fW_len; unfold maxLen; omega) (by have := HL2.out; have := fS_size; have := fW_len; omega) (Nat.le_trans hbB HTd3.out.2.1.size) ?_; intro va3 wa3 ho hg hn; have HA3 : Hid (OwnB w.heap.size wa3 va3 (Z2 ++ fW) ∧ Keep5 w.heap.size W2 wa3) := ⟨(ownB_app (ys := fW) HTd3.out.1 (Nat.le_trans hbB HTd3.out.2.1.size) (by rw [fS_size, fS_cells] at ho; exact ho) hg).1, HTd3.out.2.trans (ownB_app (ys := fW) HTd3.out.1 (Nat.le_trans hbB HTd3.out.2.1.size) (by rw [fS_size, fS_cells] at ho; exact ho) hg).2⟩; obtain ⟨Za3, hZa⟩ : ∃ Zx, Zx = Z2 ++ fW := ⟨_, rfl⟩; rw [← hZa] at HA3; have HZa3 : Hid (Za3 = Z2 ++ fW) := hZa; have HLa3 : Hid (Za3.length ≤ 22) := (by have := HL2.out; have := fW_len; rw [Hid, hZa, List.length_append]; omega); clear ho hg hn hZa)
    | (go_at_call 17; refine (l5digits_any hfn wa3).mono ?_; rintro e wc3 ⟨vd, rfl, hd, hb⟩; have HC3 : Hid (OwnB w.heap.size wc3 va3 Za3 ∧ Keep5 w.heap.size W2 wc3) := ⟨OwnB.below HA3.out.1 hb (Nat.le_refl _), HA3.out.2.trans (Keep5.of_below hb (Nat.le_trans hbB HA3.out.2.1.size))⟩; obtain ⟨da3, dc3, db3, rfl, hdr, hda, _, _⟩ := hd.form (digT_bytz hfn); obtain rfl := hda.resolve_left (by omega); have HN3 : Hid (∀ j u, ((digT fn).map (Value.int .u8))[j]? = some u → wc3.cell? ((⟨db3, 0, none⟩ : Addr).add j) = some u) := rd_news hdr; clear hd hb hdr)
    | (refine stepZ_lies wc3 rfl (.tmp 20) (.tmp 23) 28 rfl w.heap.size 5 i0 (.int .u8 0) 1 1 Tryz.underlying28 hi0 hz0 hz1 hz2 rfl (by decide) va3 Za3.length (Za3.map (Value.int .u8)) (by simp [Act.eval]) HC3.out.1 ⟨db3, 0, none⟩ (digT fn).length dc3 ((digT fn).map (Value.int .u8)) (by simp [Act.eval]) (by simp) HN3.out (oneCB _) (by omega) (by have := HLa3.out; unfold maxLen; omega) (by have := HLa3.out; omega) (Nat.le_trans hbB HC3.out.2.1.size) _ rfl ?_; intro g3 cap3 w3 ho hg ha hl; have HT3 : Hid (OwnB w.heap.size w3 (.slice (some ⟨g3, 0, none⟩) (Za3.length + (digT fn).length) cap3) (Za3 ++ digT fn) ∧ Keep5 w.heap.size W2 w3) := ⟨(ownB_app HC3.out.1 (Nat.le_trans hbB HC3.out.2.1.size) ho hg).1, HC3.out.2.trans (ownB_app HC3.out.1 (Nat.le_trans hbB HC3.out.2.1.size) ho hg).2⟩; clear ho hg ha hl))
  | fail
  (try go_simp)
  obtain ⟨v3, hv⟩ : ∃ v, v = Value.slice (some ⟨g3, 0, none⟩) (Za3.length + (digT fn).length) cap3 := ⟨_, rfl⟩
  rw [← hv] at HT3
  (try rw [← hv])
  obtain ⟨Z3, hZ⟩ : ∃ Zx, Zx = Za3 ++ digT fn := ⟨_, rfl⟩
  rw [← hZ] at HT3
  have HZ3 : Hid (Z3 = Z2 ++ fW ++ digT fn) := by rw [Hid, hZ, HZa3.out]
  have HL3 : Hid (Z3.length ≤ 24) := by have := HLa3.out; rw [Hid, hZ, List.length_append]; omega
  clear hv hZ y0 y1 y2 y3 y4 y5 y6 y7 y8 y9 y10
  obtain ⟨y0, y1, y2, y3, y4, y5, y6, y7, y8, y9, y10⟩ := (HKb.out _ HT3.out.2).cells
  have HZE : Hid (Z3 = wdK 1 ++ numsK 1 fn rn un an bn) := by rw [Hid, HZ3.out, HZ2.out]; simp [numsK, hasF, hasR, hasU, hasP]
  have HKd10 : Hid (w3.drew.cell? ⟨w.heap.size, 4, none⟩ = some (.int .i64 (xp : Nat)) ∧ w3.drew.cell? ⟨w.heap.size, 5, none⟩ = some (.int .i64 (xn : Nat)) ∧ w3.drew.cell? ⟨w.heap.size, 6, none⟩ = some (.int .i64 (yp : Nat)) ∧ w3.drew.cell? ⟨w.heap.size, 7, none⟩ = some (.int .i64 (yn : Nat))) := by have q := (HKb.out _ HT3.out.2).cells; exact ⟨q.2.2.2.2.1, q.2.2.2.2.2.1, q.2.2.2.2.2.2.1, q.2.2.2.2.2.2.2.1⟩
  have HHc10 : Hid (∀ V, Keep5 w.heap.size W2 V → V.cell? ⟨w.heap.size, 4, none⟩ = some (.int .i64 (xp : Nat)) ∧ V.cell? ⟨w.heap.size, 5, none⟩ = some (.int .i64 (xn : Nat)) ∧ V.cell? ⟨w.heap.size, 6, none⟩ = some (.int .i64 (yp : Nat)) ∧ V.cell? ⟨w.heap.size, 7, none⟩ = some (.int .i64 (yn : Nat))) := fun V hV => by have q := (HKb.out _ hV).cells; exact ⟨q.2.2.2.2.1, q.2.2.2.2.2.1, q.2.2.2.2.2.2.1, q.2.2.2.2.2.2.2.1⟩
  have HTd10 : Hid (OwnB w.heap.size w3.drew v3 Z3 ∧ Keep5 w.heap.size W2 w3.drew) := ⟨HT3.out.1, HT3.out.2.drew⟩
  have HLx : Hid ((Z3 ++ litsW xp xn [120] 24).length ≤ 1000000) := by
    have h1 := litsW_len xp xn [120] 24
    have h2 := HL3.out
    simp only [List.length_cons, List.length_nil] at h1
    rw [Hid, List.length_append]; omega
  have hLz : Z3.length ≤ 1000000 := by have := HL3.out; omega
  go_upto_region 10 with fail
  first
  | go_region_held3 (fun V => V.cell? ⟨w.heap.size, 4, none⟩ = some (.int .i64 (xp : Nat)) ∧ V.cell? ⟨w.heap.size, 5, none⟩ = some (.int .i64 (xn : Nat)) ∧ V.cell? ⟨w.heap.size, 6, none⟩ = some (.int .i64 (yp : Nat)) ∧ V.cell? ⟨w.heap.size, 7, none⟩ = some (.int .i64 (yn : Nat))) (first | with_reducible exact HKd10.out | with_reducible exact HHc10.out _ HT11.out.2 | with_reducible exact HHc10.out _ HT12.out.2) (first
    | (go_at_call_of 42 (Value.string ⟨#[120]⟩); refine (l5lits_any xS [120] xS_cells (by decide) hxp hxn HTd10.out.1 (Nat.le_trans hbB HTd10.out.2.1.size) hLz).mono ?_; rintro e w11 ⟨v11, rfl, h1, h2⟩; have HT11 : Hid (OwnB w.heap.size w11 v11 (Z3 ++ litsW xp xn [120] 24) ∧ Keep5 w.heap.size W2 w11) := ⟨h1, HTd10.out.2.trans h2⟩; clear h1 h2)
    | (go_at_call_of 42 (Value.string ⟨#[121]⟩); refine (l5lits_any yS [121] yS_cells (by decide) hyp hyn HT11.out.1 (Nat.le_trans hbB HT11.out.2.1.size) HLx.out).mono ?_; rintro e w12 ⟨v12, rfl, h1, h2⟩; have HT12 : Hid (OwnB w.heap.size w12 v12 (Z3 ++ litsW xp xn [120] 24 ++ litsW yp yn [121] 24) ∧ Keep5 w.heap.size W2 w12) := ⟨h1, HT11.out.2.trans h2⟩; clear h1 h2))
  | fail
  (try go_simp)
  clear y0 y1 y2 y3 y4 y5 y6 y7 y8 y9 y10
  obtain ⟨y0, y1, y2, y3, y4, y5, y6, y7, y8, y9, y10⟩ := (HKb.out _ HT12.out.2).cells
  go_wp2_with fail
  refine wp_loop_rounds 1 ?_
  rw [rounds_succ]
  go_wp2_with fail
  go_ret
  refine ⟨v12, rfl, ?_, HB2.out.trans HT12.out.2.1⟩
  rw [show wdK 1 ++ numsK 1 fn rn un an bn = Z3 from by rw [HZE.out]]
  exact HT12.out.1
end

section
open Go.RowKit
set_option linter.unusedVariables false

set_option maxRecDepth 100000 in
set_option maxHeartbeats 8000000 in
theorem l5text_0 {fn rn un xp xn yp yn an bn : Nat} {ia : Option Addr} {ic : Nat} {w : World} (hfn : fn < 100) (hrn : rn < 100) (hun : un < 100) (han : an < 100) (hbn : bn < 100) (hxp : xp < 16777216) (hxn : xn < 16777216) (hyp : yp < 16777216) (hyn : yn < 16777216) :
    Calls Tryz.prog 19 #[.agg #[.int .i64 0, .int .i64 (fn : Nat), .int .i64 (rn : Nat), .int .i64 (un : Nat), .int .i64 (xp : Nat), .int .i64 (xn : Nat), .int .i64 (yp : Nat), .int .i64 (yn : Nat), .slice ia 0 ic, .int .i64 (an : Nat), .int .i64 (bn : Nat)]] w fun e w' => ∃ v, e = .returned v ∧ OwnB w.heap.size w' v (wdK 0 ++ numsK 0 fn rn un an bn ++ litsW xp xn [120] 24 ++ litsW yp yn [121] 24) ∧ Below w.heap.size w w' := by
  obtain ⟨W0, hW0⟩ : ∃ W0, W0 = w.alloc (.cells #[.int .i64 0, .int .i64 (fn : Nat), .int .i64 (rn : Nat), .int .i64 (un : Nat), .int .i64 (xp : Nat), .int .i64 (xn : Nat), .int .i64 (yp : Nat), .int .i64 (yn : Nat), .slice ia 0 ic, .int .i64 (an : Nat), .int .i64 (bn : Nat)] 53) := ⟨_, rfl⟩
  have HW0 : Hid (W0 = w.alloc (.cells #[.int .i64 0, .int .i64 (fn : Nat), .int .i64 (rn : Nat), .int .i64 (un : Nat), .int .i64 (xp : Nat), .int .i64 (xn : Nat), .int .i64 (yp : Nat), .int .i64 (yn : Nat), .slice ia 0 ic, .int .i64 (an : Nat), .int .i64 (bn : Nat)] 53)) := hW0
  have hb0 : Below w.heap.size w W0 := by rw [hW0]; exact (Below.refl _ _).alloc (Nat.le_refl _) _
  have hkb : BoxK 53 W0 w.heap.size 0 (fn : Nat) (rn : Nat) (un : Nat) (xp : Nat) (xn : Nat) (yp : Nat) (yn : Nat) (.slice ia 0 ic) (an : Nat) (bn : Nat) := by rw [hW0]; exact BoxK.new _ w _ _ _ _ _ _ _ _ _ _ _
  obtain ⟨W1, hW1⟩ : ∃ W1, W1 = W0.alloc (.cells #[.string { data := #[111, 110, 101] }, .string { data := #[110, 101, 120, 116] }, .string { data := #[101, 100, 103, 101] }, .string { data := #[97, 108, 108] }, .string { data := #[114, 111, 108, 101] }, .string { data := #[102, 97, 99, 116] }, .string { data := #[112, 97, 105, 114] }] 9) := ⟨_, rfl⟩
  have HW1 : Hid (W0.alloc (.cells #[.string { data := #[111, 110, 101] }, .string { data := #[110, 101, 120, 116] }, .string { data := #[101, 100, 103, 101] }, .string { data := #[97, 108, 108] }, .string { data := #[114, 111, 108, 101] }, .string { data := #[102, 97, 99, 116] }, .string { data := #[112, 97, 105, 114] }] 9) = W1) := hW1.symm
  have hb1 : Below W0.heap.size W0 W1 := by rw [hW1]; exact (Below.refl _ _).alloc (Nat.le_refl _) _
  have hkb1 := hkb.below hb1 hkb.lt
  have hss : W1.heap[W0.heap.size]? = some (.cells #[.string { data := #[111, 110, 101] }, .string { data := #[110, 101, 120, 116] }, .string { data := #[101, 100, 103, 101] }, .string { data := #[97, 108, 108] }, .string { data := #[114, 111, 108, 101] }, .string { data := #[102, 97, 99, 116] }, .string { data := #[112, 97, 105, 114] }] 9 (0, 0)) := by rw [hW1]; exact World.alloc_heap_new W0 _
  have ss : W1.cell? ⟨W0.heap.size, 0, none⟩ = some (.string { data := #[111, 110, 101] }) := by simp [World.cell?, hss]
  have hs1 : w.heap.size ≤ W1.heap.size := Nat.le_trans hb0.size hb1.size
  obtain ⟨W2, hW2⟩ : ∃ W2, W2 = Lib.bytesWorld W1 5 { data := #[111, 110, 101] } := ⟨_, rfl⟩
  obtain ⟨cp, hcp⟩ : ∃ cp, cp = grownCap W1 ({ data := #[111, 110, 101] } : ByteArray).size 0 5 := ⟨_, rfl⟩
  have hcv : (convert 9 28 (.string { data := #[111, 110, 101] })).run Tryz.prog W1 = .ok (.slice (some ⟨W1.heap.size, 0, none⟩) 3 cp) W2 := by
    rw [Lib.run_convert_string_bytes W1 9 28 5 { data := #[111, 110, 101] } Tryz.underlying9 Tryz.underlying28 Tryz.underlying5, ← hW2, ← hcp]
    rfl
  have hb2 : Below W1.heap.size W1 W2 := by rw [hW2]; exact conv_below W1 5 _
  have hkb2 := hkb1.below hb2 hkb1.lt
  have HKb : Hid (∀ V, Keep5 w.heap.size W2 V → BoxK 53 V w.heap.size 0 (fn : Nat) (rn : Nat) (un : Nat) (xp : Nat) (xn : Nat) (yp : Nat) (yn : Nat) (.slice ia 0 ic) (an : Nat) (bn : Nat)) := fun V hV => hkb2.keep5 hV
  have HB2 : Hid (Below w.heap.size w W2) := (hb0.trans (hb1.mono hb0.size)).trans (hb2.mono hs1)
  have hbB : w.heap.size ≤ W2.heap.size := HB2.out.size
  obtain ⟨Z2, hZ2⟩ : ∃ Z, Z = wdK 0 := ⟨_, rfl⟩
  have HZ2 : Hid (Z2 = wdK 0) := hZ2
  obtain ⟨v2, hv2⟩ : ∃ v, v = Value.slice (some ⟨W1.heap.size, 0, none⟩) 3 cp := ⟨_, rfl⟩
  have HT2 : Hid (OwnB w.heap.size W2 v2 Z2 ∧ Keep5 w.heap.size W2 W2) := by
    refine ⟨?_, Keep5.refl _ _⟩
    rw [hv2, hW2, hcp, hZ2]
    exact ownsZ_conv W1 w.heap.size 5 { data := #[111, 110, 101] } hs1 (by unfold maxLen; decide)
  have HL2 : Hid (Z2.length ≤ 8) := by rw [Hid, hZ2]; decide
  rw [← hv2] at hcv
  obtain ⟨i0, hi0, hz0, hz1, hz2⟩ := info_parts Tryz.info5d
  have hdf := digT_len fn
  have hdr0 := digT_len rn
  have hdu := digT_len un
  have hda0 := digT_len an
  have hdb0 := digT_len bn
  obtain ⟨y0, y1, y2, y3, y4, y5, y6, y7, y8, y9, y10⟩ := hkb.cells
  obtain ⟨m0, m1, m2, m3, m4, m5, m6, m7, m8, m9, m10⟩ := hkb1.cells
  clear hW0 hW1 hW2 hb0 hb1 hb2 hkb hkb1 hkb2 hss hs1 hcp hZ2 hv2
  go_enter Tryz.func19, Tryz.ntmps19
  go_upto_region 1 with fail
  rw [← HW0.out]
  have h1 := HW1.out
  go_upto_region 2 with fail
  clear y0 y1 y2 y3 y4 y5 y6 y7 y8 y9 y10 m0 m1 m2 m3 m4 m5 m6 m7 m8 m9 m10 h1 ss hcv
  obtain ⟨y0, y1, y2, y3, y4, y5, y6, y7, y8, y9, y10⟩ := (HKb.out _ HT2.out.2).cells
  have HZE : Hid (Z2 = wdK 0 ++ numsK 0 fn rn un an bn) := by rw [Hid, HZ2.out]; simp [numsK, hasF, hasR, hasU, hasP]
  have HKd10 : Hid (W2.drew.cell? ⟨w.heap.size, 4, none⟩ = some (.int .i64 (xp : Nat)) ∧ W2.drew.cell? ⟨w.heap.size, 5, none⟩ = some (.int .i64 (xn : Nat)) ∧ W2.drew.cell? ⟨w.heap.size, 6, none⟩ = some (.int .i64 (yp : Nat)) ∧ W2.drew.cell? ⟨w.heap.size, 7, none⟩ = some (.int .i64 (yn : Nat))) := by have q := (HKb.out _ HT2.out.2).cells; exact ⟨q.2.2.2.2.1, q.2.2.2.2.2.1, q.2.2.2.2.2.2.1, q.2.2.2.2.2.2.2.1⟩
  have HHc10 : Hid (∀ V, Keep5 w.heap.size W2 V → V.cell? ⟨w.heap.size, 4, none⟩ = some (.int .i64 (xp : Nat)) ∧ V.cell? ⟨w.heap.size, 5, none⟩ = some (.int .i64 (xn : Nat)) ∧ V.cell? ⟨w.heap.size, 6, none⟩ = some (.int .i64 (yp : Nat)) ∧ V.cell? ⟨w.heap.size, 7, none⟩ = some (.int .i64 (yn : Nat))) := fun V hV => by have q := (HKb.out _ hV).cells; exact ⟨q.2.2.2.2.1, q.2.2.2.2.2.1, q.2.2.2.2.2.2.1, q.2.2.2.2.2.2.2.1⟩
  have HTd10 : Hid (OwnB w.heap.size W2.drew v2 Z2 ∧ Keep5 w.heap.size W2 W2.drew) := ⟨HT2.out.1, HT2.out.2.drew⟩
  have HLx : Hid ((Z2 ++ litsW xp xn [120] 24).length ≤ 1000000) := by
    have h1 := litsW_len xp xn [120] 24
    have h2 := HL2.out
    simp only [List.length_cons, List.length_nil] at h1
    rw [Hid, List.length_append]; omega
  have hLz : Z2.length ≤ 1000000 := by have := HL2.out; omega
  go_upto_region 10 with fail
  first
  | go_region_held3 (fun V => V.cell? ⟨w.heap.size, 4, none⟩ = some (.int .i64 (xp : Nat)) ∧ V.cell? ⟨w.heap.size, 5, none⟩ = some (.int .i64 (xn : Nat)) ∧ V.cell? ⟨w.heap.size, 6, none⟩ = some (.int .i64 (yp : Nat)) ∧ V.cell? ⟨w.heap.size, 7, none⟩ = some (.int .i64 (yn : Nat))) (first | with_reducible exact HKd10.out | with_reducible exact HHc10.out _ HT11.out.2 | with_reducible exact HHc10.out _ HT12.out.2) (first
    | (go_at_call_of 42 (Value.string ⟨#[120]⟩); refine (l5lits_any xS [120] xS_cells (by decide) hxp hxn HTd10.out.1 (Nat.le_trans hbB HTd10.out.2.1.size) hLz).mono ?_; rintro e w11 ⟨v11, rfl, h1, h2⟩; have HT11 : Hid (OwnB w.heap.size w11 v11 (Z2 ++ litsW xp xn [120] 24) ∧ Keep5 w.heap.size W2 w11) := ⟨h1, HTd10.out.2.trans h2⟩; clear h1 h2)
    | (go_at_call_of 42 (Value.string ⟨#[121]⟩); refine (l5lits_any yS [121] yS_cells (by decide) hyp hyn HT11.out.1 (Nat.le_trans hbB HT11.out.2.1.size) HLx.out).mono ?_; rintro e w12 ⟨v12, rfl, h1, h2⟩; have HT12 : Hid (OwnB w.heap.size w12 v12 (Z2 ++ litsW xp xn [120] 24 ++ litsW yp yn [121] 24) ∧ Keep5 w.heap.size W2 w12) := ⟨h1, HT11.out.2.trans h2⟩; clear h1 h2))
  | fail
  (try go_simp)
  clear y0 y1 y2 y3 y4 y5 y6 y7 y8 y9 y10
  obtain ⟨y0, y1, y2, y3, y4, y5, y6, y7, y8, y9, y10⟩ := (HKb.out _ HT12.out.2).cells
  go_wp2_with fail
  refine wp_loop_rounds 1 ?_
  rw [rounds_succ]
  go_wp2_with fail
  go_ret
  refine ⟨v12, rfl, ?_, HB2.out.trans HT12.out.2.1⟩
  rw [show wdK 0 ++ numsK 0 fn rn un an bn = Z2 from by rw [HZE.out]]
  exact HT12.out.1
end

section
open Go.RowKit
set_option linter.unusedVariables false

set_option maxRecDepth 100000 in
set_option maxHeartbeats 8000000 in
theorem l5text_2 {fn rn un xp xn yp yn an bn : Nat} {ia : Option Addr} {ic : Nat} {w : World} (hfn : fn < 100) (hrn : rn < 100) (hun : un < 100) (han : an < 100) (hbn : bn < 100) (hxp : xp < 16777216) (hxn : xn < 16777216) (hyp : yp < 16777216) (hyn : yn < 16777216) :
    Calls Tryz.prog 19 #[.agg #[.int .i64 2, .int .i64 (fn : Nat), .int .i64 (rn : Nat), .int .i64 (un : Nat), .int .i64 (xp : Nat), .int .i64 (xn : Nat), .int .i64 (yp : Nat), .int .i64 (yn : Nat), .slice ia 0 ic, .int .i64 (an : Nat), .int .i64 (bn : Nat)]] w fun e w' => ∃ v, e = .returned v ∧ OwnB w.heap.size w' v (wdK 2 ++ numsK 2 fn rn un an bn ++ litsW xp xn [120] 24 ++ litsW yp yn [121] 24) ∧ Below w.heap.size w w' := by
  obtain ⟨W0, hW0⟩ : ∃ W0, W0 = w.alloc (.cells #[.int .i64 2, .int .i64 (fn : Nat), .int .i64 (rn : Nat), .int .i64 (un : Nat), .int .i64 (xp : Nat), .int .i64 (xn : Nat), .int .i64 (yp : Nat), .int .i64 (yn : Nat), .slice ia 0 ic, .int .i64 (an : Nat), .int .i64 (bn : Nat)] 53) := ⟨_, rfl⟩
  have HW0 : Hid (W0 = w.alloc (.cells #[.int .i64 2, .int .i64 (fn : Nat), .int .i64 (rn : Nat), .int .i64 (un : Nat), .int .i64 (xp : Nat), .int .i64 (xn : Nat), .int .i64 (yp : Nat), .int .i64 (yn : Nat), .slice ia 0 ic, .int .i64 (an : Nat), .int .i64 (bn : Nat)] 53)) := hW0
  have hb0 : Below w.heap.size w W0 := by rw [hW0]; exact (Below.refl _ _).alloc (Nat.le_refl _) _
  have hkb : BoxK 53 W0 w.heap.size 2 (fn : Nat) (rn : Nat) (un : Nat) (xp : Nat) (xn : Nat) (yp : Nat) (yn : Nat) (.slice ia 0 ic) (an : Nat) (bn : Nat) := by rw [hW0]; exact BoxK.new _ w _ _ _ _ _ _ _ _ _ _ _
  obtain ⟨W1, hW1⟩ : ∃ W1, W1 = W0.alloc (.cells #[.string { data := #[111, 110, 101] }, .string { data := #[110, 101, 120, 116] }, .string { data := #[101, 100, 103, 101] }, .string { data := #[97, 108, 108] }, .string { data := #[114, 111, 108, 101] }, .string { data := #[102, 97, 99, 116] }, .string { data := #[112, 97, 105, 114] }] 9) := ⟨_, rfl⟩
  have HW1 : Hid (W0.alloc (.cells #[.string { data := #[111, 110, 101] }, .string { data := #[110, 101, 120, 116] }, .string { data := #[101, 100, 103, 101] }, .string { data := #[97, 108, 108] }, .string { data := #[114, 111, 108, 101] }, .string { data := #[102, 97, 99, 116] }, .string { data := #[112, 97, 105, 114] }] 9) = W1) := hW1.symm
  have hb1 : Below W0.heap.size W0 W1 := by rw [hW1]; exact (Below.refl _ _).alloc (Nat.le_refl _) _
  have hkb1 := hkb.below hb1 hkb.lt
  have hss : W1.heap[W0.heap.size]? = some (.cells #[.string { data := #[111, 110, 101] }, .string { data := #[110, 101, 120, 116] }, .string { data := #[101, 100, 103, 101] }, .string { data := #[97, 108, 108] }, .string { data := #[114, 111, 108, 101] }, .string { data := #[102, 97, 99, 116] }, .string { data := #[112, 97, 105, 114] }] 9 (0, 0)) := by rw [hW1]; exact World.alloc_heap_new W0 _
  have ss : W1.cell? ⟨W0.heap.size, 2, none⟩ = some (.string { data := #[101, 100, 103, 101] }) := by simp [World.cell?, hss]
  have hs1 : w.heap.size ≤ W1.heap.size := Nat.le_trans hb0.size hb1.size
  obtain ⟨W2, hW2⟩ : ∃ W2, W2 = Lib.bytesWorld W1 5 { data := #[101, 100, 103, 101] } := ⟨_, rfl⟩
  obtain ⟨cp, hcp⟩ : ∃ cp, cp = grownCap W1 ({ data := #[101, 100, 103, 101] } : ByteArray).size 0 5 := ⟨_, rfl⟩
  have hcv : (convert 9 28 (.string { data := #[101, 100, 103, 101] })).run Tryz.prog W1 = .ok (.slice (some ⟨W1.heap.size, 0, none⟩) 4 cp) W2 := by
    rw [Lib.run_convert_string_bytes W1 9 28 5 { data := #[101, 100, 103, 101] } Tryz.underlying9 Tryz.underlying28 Tryz.underlying5, ← hW2, ← hcp]
    rfl
  have hb2 : Below W1.heap.size W1 W2 := by rw [hW2]; exact conv_below W1 5 _
  have hkb2 := hkb1.below hb2 hkb1.lt
  have HKb : Hid (∀ V, Keep5 w.heap.size W2 V → BoxK 53 V w.heap.size 2 (fn : Nat) (rn : Nat) (un : Nat) (xp : Nat) (xn : Nat) (yp : Nat) (yn : Nat) (.slice ia 0 ic) (an : Nat) (bn : Nat)) := fun V hV => hkb2.keep5 hV
  have HB2 : Hid (Below w.heap.size w W2) := (hb0.trans (hb1.mono hb0.size)).trans (hb2.mono hs1)
  have hbB : w.heap.size ≤ W2.heap.size := HB2.out.size
  obtain ⟨Z2, hZ2⟩ : ∃ Z, Z = wdK 2 := ⟨_, rfl⟩
  have HZ2 : Hid (Z2 = wdK 2) := hZ2
  obtain ⟨v2, hv2⟩ : ∃ v, v = Value.slice (some ⟨W1.heap.size, 0, none⟩) 4 cp := ⟨_, rfl⟩
  have HT2 : Hid (OwnB w.heap.size W2 v2 Z2 ∧ Keep5 w.heap.size W2 W2) := by
    refine ⟨?_, Keep5.refl _ _⟩
    rw [hv2, hW2, hcp, hZ2]
    exact ownsZ_conv W1 w.heap.size 5 { data := #[101, 100, 103, 101] } hs1 (by unfold maxLen; decide)
  have HL2 : Hid (Z2.length ≤ 8) := by rw [Hid, hZ2]; decide
  rw [← hv2] at hcv
  obtain ⟨i0, hi0, hz0, hz1, hz2⟩ := info_parts Tryz.info5d
  have hdf := digT_len fn
  have hdr0 := digT_len rn
  have hdu := digT_len un
  have hda0 := digT_len an
  have hdb0 := digT_len bn
  obtain ⟨y0, y1, y2, y3, y4, y5, y6, y7, y8, y9, y10⟩ := hkb.cells
  obtain ⟨m0, m1, m2, m3, m4, m5, m6, m7, m8, m9, m10⟩ := hkb1.cells
  clear hW0 hW1 hW2 hb0 hb1 hb2 hkb hkb1 hkb2 hss hs1 hcp hZ2 hv2
  go_enter Tryz.func19, Tryz.ntmps19
  go_upto_region 1 with fail
  rw [← HW0.out]
  have h1 := HW1.out
  go_upto_region 2 with fail
  clear y0 y1 y2 y3 y4 y5 y6 y7 y8 y9 y10 m0 m1 m2 m3 m4 m5 m6 m7 m8 m9 m10 h1 ss hcv
  obtain ⟨y0, y1, y2, y3, y4, y5, y6, y7, y8, y9, y10⟩ := (HKb.out _ HT2.out.2).cells
  have HKd3 : Hid (W2.drew.cell? ⟨w.heap.size, 1, none⟩ = some (.int .i64 (fn : Nat))) := by have q := (HKb.out _ HT2.out.2).cells; exact q.2.1
  have HTd3 : Hid (OwnB w.heap.size W2.drew v2 Z2 ∧ Keep5 w.heap.size W2 W2.drew) := ⟨HT2.out.1, HT2.out.2.drew⟩
  have HHc3 : Hid (∀ V, Keep5 w.heap.size W2 V → V.cell? ⟨w.heap.size, 1, none⟩ = some (.int .i64 (fn : Nat))) := fun V hV => by have q := (HKb.out _ hV).cells; exact q.2.1
  go_upto_region 3 with fail
  first
  | go_region_held3 (fun V => V.cell? ⟨w.heap.size, 1, none⟩ = some (.int .i64 (fn : Nat))) (first | with_reducible exact HKd3.out | with_reducible exact HHc3.out _ HA3.out.2 | with_reducible exact HHc3.out _ HC3.out.2 | with_reducible exact HHc3.out _ HT3.out.2) (first
    | (refine step_append_strAt rfl (.tmp 19) (.const (.string fS)) 28 9 rfl w.heap.size 5 i0 Tryz.underlying28 Tryz.underlying9 hi0 hz0 hz1 hz2 v2 Z2.length (Z2.map (Value.int .u8)) (by simp [Act.eval]) (HTd3.out.1 : OwnB w.heap.size W2.drew v2 Z2) fS rfl (by have := HL2.out; have := fS_size; have := fW_len; unfold maxLen; omega) (by have := HL2.out; have := fS_size; have := fW_len; omega) (Nat.le_trans hbB HTd3.out.2.1.size) ?_; intro va3 wa3 ho hg hn; have HA3 : Hid (OwnB w.heap.size wa3 va3 (Z2 ++ fW) ∧ Keep5 w.heap.size W2 wa3) := ⟨(ownB_app (ys := fW) HTd3.out.1 (Nat.le_trans hbB HTd3.out.2.1.size) (by rw [fS_size, fS_cells] at ho; exact ho) hg).1, HTd3.out.2.trans (ownB_app (ys := fW) HTd3.out.1 (Nat.le_trans hbB HTd3.out.2.1.size) (by rw [fS_size, fS_cells] at ho; exact ho) hg).2⟩; obtain ⟨Za3, hZa⟩ : ∃ Zx, Zx = Z2 ++ fW := ⟨_, rfl⟩; rw [← hZa] at HA3; have HZa3 : Hid (Za3 = Z2 ++ fW) := hZa; have HLa3 : Hid (Za3.length ≤ 22) := (by have := HL2.out; have := fW_len; rw [Hid, hZa, List.length_append]; omega); clear ho hg hn hZa)
    | (go_at_call 17; refine (l5digits_any hfn wa3).mono ?_; rintro e wc3 ⟨vd, rfl, hd, hb⟩; have HC3 : Hid (OwnB w.heap.size wc3 va3 Za3 ∧ Keep5 w.heap.size W2 wc3) := ⟨OwnB.below HA3.out.1 hb (Nat.le_refl _), HA3.out.2.trans (Keep5.of_below hb (Nat.le_trans hbB HA3.out.2.1.size))⟩; obtain ⟨da3, dc3, db3, rfl, hdr, hda, _, _⟩ := hd.form (digT_bytz hfn); obtain rfl := hda.resolve_left (by omega); have HN3 : Hid (∀ j u, ((digT fn).map (Value.int .u8))[j]? = some u → wc3.cell? ((⟨db3, 0, none⟩ : Addr).add j) = some u) := rd_news hdr; clear hd hb hdr)
    | (refine stepZ_lies wc3 rfl (.tmp 20) (.tmp 23) 28 rfl w.heap.size 5 i0 (.int .u8 0) 1 1 Tryz.underlying28 hi0 hz0 hz1 hz2 rfl (by decide) va3 Za3.length (Za3.map (Value.int .u8)) (by simp [Act.eval]) HC3.out.1 ⟨db3, 0, none⟩ (digT fn).length dc3 ((digT fn).map (Value.int .u8)) (by simp [Act.eval]) (by simp) HN3.out (oneCB _) (by omega) (by have := HLa3.out; unfold maxLen; omega) (by have := HLa3.out; omega) (Nat.le_trans hbB HC3.out.2.1.size) _ rfl ?_; intro g3 cap3 w3 ho hg ha hl; have HT3 : Hid (OwnB w.heap.size w3 (.slice (some ⟨g3, 0, none⟩) (Za3.length + (digT fn).length) cap3) (Za3 ++ digT fn) ∧ Keep5 w.heap.size W2 w3) := ⟨(ownB_app HC3.out.1 (Nat.le_trans hbB HC3.out.2.1.size) ho hg).1, HC3.out.2.trans (ownB_app HC3.out.1 (Nat.le_trans hbB HC3.out.2.1.size) ho hg).2⟩; clear ho hg ha hl))
  | fail
  (try go_simp)
  obtain ⟨v3, hv⟩ : ∃ v, v = Value.slice (some ⟨g3, 0, none⟩) (Za3.length + (digT fn).length) cap3 := ⟨_, rfl⟩
  rw [← hv] at HT3
  (try rw [← hv])
  obtain ⟨Z3, hZ⟩ : ∃ Zx, Zx = Za3 ++ digT fn := ⟨_, rfl⟩
  rw [← hZ] at HT3
  have HZ3 : Hid (Z3 = Z2 ++ fW ++ digT fn) := by rw [Hid, hZ, HZa3.out]
  have HL3 : Hid (Z3.length ≤ 24) := by have := HLa3.out; rw [Hid, hZ, List.length_append]; omega
  clear hv hZ y0 y1 y2 y3 y4 y5 y6 y7 y8 y9 y10
  obtain ⟨y0, y1, y2, y3, y4, y5, y6, y7, y8, y9, y10⟩ := (HKb.out _ HT3.out.2).cells
  have HKd4 : Hid (w3.drew.cell? ⟨w.heap.size, 2, none⟩ = some (.int .i64 (rn : Nat))) := by have q := (HKb.out _ HT3.out.2).cells; exact q.2.2.1
  have HTd4 : Hid (OwnB w.heap.size w3.drew v3 Z3 ∧ Keep5 w.heap.size W2 w3.drew) := ⟨HT3.out.1, HT3.out.2.drew⟩
  have HHc4 : Hid (∀ V, Keep5 w.heap.size W2 V → V.cell? ⟨w.heap.size, 2, none⟩ = some (.int .i64 (rn : Nat))) := fun V hV => by have q := (HKb.out _ hV).cells; exact q.2.2.1
  go_upto_region 5 with fail
  first
  | go_region_held3 (fun V => V.cell? ⟨w.heap.size, 2, none⟩ = some (.int .i64 (rn : Nat))) (first | with_reducible exact HKd4.out | with_reducible exact HHc4.out _ HA4.out.2 | with_reducible exact HHc4.out _ HC4.out.2 | with_reducible exact HHc4.out _ HT4.out.2) (first
    | (refine step_append_strAt rfl (.tmp 33) (.const (.string rS)) 28 9 rfl w.heap.size 5 i0 Tryz.underlying28 Tryz.underlying9 hi0 hz0 hz1 hz2 v3 Z3.length (Z3.map (Value.int .u8)) (by simp [Act.eval]) (HTd4.out.1 : OwnB w.heap.size w3.drew v3 Z3) rS rfl (by have := HL3.out; have := rS_size; have := rW_len; unfold maxLen; omega) (by have := HL3.out; have := rS_size; have := rW_len; omega) (Nat.le_trans hbB HTd4.out.2.1.size) ?_; intro va4 wa4 ho hg hn; have HA4 : Hid (OwnB w.heap.size wa4 va4 (Z3 ++ rW) ∧ Keep5 w.heap.size W2 wa4) := ⟨(ownB_app (ys := rW) HTd4.out.1 (Nat.le_trans hbB HTd4.out.2.1.size) (by rw [rS_size, rS_cells] at ho; exact ho) hg).1, HTd4.out.2.trans (ownB_app (ys := rW) HTd4.out.1 (Nat.le_trans hbB HTd4.out.2.1.size) (by rw [rS_size, rS_cells] at ho; exact ho) hg).2⟩; obtain ⟨Za4, hZa⟩ : ∃ Zx, Zx = Z3 ++ rW := ⟨_, rfl⟩; rw [← hZa] at HA4; have HZa4 : Hid (Za4 = Z3 ++ rW) := hZa; have HLa4 : Hid (Za4.length ≤ 28) := (by have := HL3.out; have := rW_len; rw [Hid, hZa, List.length_append]; omega); clear ho hg hn hZa)
    | (go_at_call 17; refine (l5digits_any hrn wa4).mono ?_; rintro e wc4 ⟨vd, rfl, hd, hb⟩; have HC4 : Hid (OwnB w.heap.size wc4 va4 Za4 ∧ Keep5 w.heap.size W2 wc4) := ⟨OwnB.below HA4.out.1 hb (Nat.le_refl _), HA4.out.2.trans (Keep5.of_below hb (Nat.le_trans hbB HA4.out.2.1.size))⟩; obtain ⟨da4, dc4, db4, rfl, hdr, hda, _, _⟩ := hd.form (digT_bytz hrn); obtain rfl := hda.resolve_left (by omega); have HN4 : Hid (∀ j u, ((digT rn).map (Value.int .u8))[j]? = some u → wc4.cell? ((⟨db4, 0, none⟩ : Addr).add j) = some u) := rd_news hdr; clear hd hb hdr)
    | (refine stepZ_lies wc4 rfl (.tmp 34) (.tmp 37) 28 rfl w.heap.size 5 i0 (.int .u8 0) 1 1 Tryz.underlying28 hi0 hz0 hz1 hz2 rfl (by decide) va4 Za4.length (Za4.map (Value.int .u8)) (by simp [Act.eval]) HC4.out.1 ⟨db4, 0, none⟩ (digT rn).length dc4 ((digT rn).map (Value.int .u8)) (by simp [Act.eval]) (by simp) HN4.out (oneCB _) (by omega) (by have := HLa4.out; unfold maxLen; omega) (by have := HLa4.out; omega) (Nat.le_trans hbB HC4.out.2.1.size) _ rfl ?_; intro g4 cap4 w4 ho hg ha hl; have HT4 : Hid (OwnB w.heap.size w4 (.slice (some ⟨g4, 0, none⟩) (Za4.length + (digT rn).length) cap4) (Za4 ++ digT rn) ∧ Keep5 w.heap.size W2 w4) := ⟨(ownB_app HC4.out.1 (Nat.le_trans hbB HC4.out.2.1.size) ho hg).1, HC4.out.2.trans (ownB_app HC4.out.1 (Nat.le_trans hbB HC4.out.2.1.size) ho hg).2⟩; clear ho hg ha hl))
  | fail
  (try go_simp)
  obtain ⟨v4, hv⟩ : ∃ v, v = Value.slice (some ⟨g4, 0, none⟩) (Za4.length + (digT rn).length) cap4 := ⟨_, rfl⟩
  rw [← hv] at HT4
  (try rw [← hv])
  obtain ⟨Z4, hZ⟩ : ∃ Zx, Zx = Za4 ++ digT rn := ⟨_, rfl⟩
  rw [← hZ] at HT4
  have HZ4 : Hid (Z4 = Z3 ++ rW ++ digT rn) := by rw [Hid, hZ, HZa4.out]
  have HL4 : Hid (Z4.length ≤ 30) := by have := HLa4.out; rw [Hid, hZ, List.length_append]; omega
  clear hv hZ y0 y1 y2 y3 y4 y5 y6 y7 y8 y9 y10
  obtain ⟨y0, y1, y2, y3, y4, y5, y6, y7, y8, y9, y10⟩ := (HKb.out _ HT4.out.2).cells
  have HZE : Hid (Z4 = wdK 2 ++ numsK 2 fn rn un an bn) := by rw [Hid, HZ4.out, HZ3.out, HZ2.out]; simp [numsK, hasF, hasR, hasU, hasP]
  have HKd10 : Hid (w4.drew.cell? ⟨w.heap.size, 4, none⟩ = some (.int .i64 (xp : Nat)) ∧ w4.drew.cell? ⟨w.heap.size, 5, none⟩ = some (.int .i64 (xn : Nat)) ∧ w4.drew.cell? ⟨w.heap.size, 6, none⟩ = some (.int .i64 (yp : Nat)) ∧ w4.drew.cell? ⟨w.heap.size, 7, none⟩ = some (.int .i64 (yn : Nat))) := by have q := (HKb.out _ HT4.out.2).cells; exact ⟨q.2.2.2.2.1, q.2.2.2.2.2.1, q.2.2.2.2.2.2.1, q.2.2.2.2.2.2.2.1⟩
  have HHc10 : Hid (∀ V, Keep5 w.heap.size W2 V → V.cell? ⟨w.heap.size, 4, none⟩ = some (.int .i64 (xp : Nat)) ∧ V.cell? ⟨w.heap.size, 5, none⟩ = some (.int .i64 (xn : Nat)) ∧ V.cell? ⟨w.heap.size, 6, none⟩ = some (.int .i64 (yp : Nat)) ∧ V.cell? ⟨w.heap.size, 7, none⟩ = some (.int .i64 (yn : Nat))) := fun V hV => by have q := (HKb.out _ hV).cells; exact ⟨q.2.2.2.2.1, q.2.2.2.2.2.1, q.2.2.2.2.2.2.1, q.2.2.2.2.2.2.2.1⟩
  have HTd10 : Hid (OwnB w.heap.size w4.drew v4 Z4 ∧ Keep5 w.heap.size W2 w4.drew) := ⟨HT4.out.1, HT4.out.2.drew⟩
  have HLx : Hid ((Z4 ++ litsW xp xn [120] 24).length ≤ 1000000) := by
    have h1 := litsW_len xp xn [120] 24
    have h2 := HL4.out
    simp only [List.length_cons, List.length_nil] at h1
    rw [Hid, List.length_append]; omega
  have hLz : Z4.length ≤ 1000000 := by have := HL4.out; omega
  go_upto_region 10 with fail
  first
  | go_region_held3 (fun V => V.cell? ⟨w.heap.size, 4, none⟩ = some (.int .i64 (xp : Nat)) ∧ V.cell? ⟨w.heap.size, 5, none⟩ = some (.int .i64 (xn : Nat)) ∧ V.cell? ⟨w.heap.size, 6, none⟩ = some (.int .i64 (yp : Nat)) ∧ V.cell? ⟨w.heap.size, 7, none⟩ = some (.int .i64 (yn : Nat))) (first | with_reducible exact HKd10.out | with_reducible exact HHc10.out _ HT11.out.2 | with_reducible exact HHc10.out _ HT12.out.2) (first
    | (go_at_call_of 42 (Value.string ⟨#[120]⟩); refine (l5lits_any xS [120] xS_cells (by decide) hxp hxn HTd10.out.1 (Nat.le_trans hbB HTd10.out.2.1.size) hLz).mono ?_; rintro e w11 ⟨v11, rfl, h1, h2⟩; have HT11 : Hid (OwnB w.heap.size w11 v11 (Z4 ++ litsW xp xn [120] 24) ∧ Keep5 w.heap.size W2 w11) := ⟨h1, HTd10.out.2.trans h2⟩; clear h1 h2)
    | (go_at_call_of 42 (Value.string ⟨#[121]⟩); refine (l5lits_any yS [121] yS_cells (by decide) hyp hyn HT11.out.1 (Nat.le_trans hbB HT11.out.2.1.size) HLx.out).mono ?_; rintro e w12 ⟨v12, rfl, h1, h2⟩; have HT12 : Hid (OwnB w.heap.size w12 v12 (Z4 ++ litsW xp xn [120] 24 ++ litsW yp yn [121] 24) ∧ Keep5 w.heap.size W2 w12) := ⟨h1, HT11.out.2.trans h2⟩; clear h1 h2))
  | fail
  (try go_simp)
  clear y0 y1 y2 y3 y4 y5 y6 y7 y8 y9 y10
  obtain ⟨y0, y1, y2, y3, y4, y5, y6, y7, y8, y9, y10⟩ := (HKb.out _ HT12.out.2).cells
  go_wp2_with fail
  refine wp_loop_rounds 1 ?_
  rw [rounds_succ]
  go_wp2_with fail
  go_ret
  refine ⟨v12, rfl, ?_, HB2.out.trans HT12.out.2.1⟩
  rw [show wdK 2 ++ numsK 2 fn rn un an bn = Z4 from by rw [HZE.out]]
  exact HT12.out.1
end

section
open Go.RowKit
set_option linter.unusedVariables false

set_option maxRecDepth 100000 in
set_option maxHeartbeats 8000000 in
theorem l5text_3 {fn rn un xp xn yp yn an bn : Nat} {ia : Option Addr} {ic : Nat} {w : World} (hfn : fn < 100) (hrn : rn < 100) (hun : un < 100) (han : an < 100) (hbn : bn < 100) (hxp : xp < 16777216) (hxn : xn < 16777216) (hyp : yp < 16777216) (hyn : yn < 16777216) :
    Calls Tryz.prog 19 #[.agg #[.int .i64 3, .int .i64 (fn : Nat), .int .i64 (rn : Nat), .int .i64 (un : Nat), .int .i64 (xp : Nat), .int .i64 (xn : Nat), .int .i64 (yp : Nat), .int .i64 (yn : Nat), .slice ia 0 ic, .int .i64 (an : Nat), .int .i64 (bn : Nat)]] w fun e w' => ∃ v, e = .returned v ∧ OwnB w.heap.size w' v (wdK 3 ++ numsK 3 fn rn un an bn ++ litsW xp xn [120] 24 ++ litsW yp yn [121] 24) ∧ Below w.heap.size w w' := by
  obtain ⟨W0, hW0⟩ : ∃ W0, W0 = w.alloc (.cells #[.int .i64 3, .int .i64 (fn : Nat), .int .i64 (rn : Nat), .int .i64 (un : Nat), .int .i64 (xp : Nat), .int .i64 (xn : Nat), .int .i64 (yp : Nat), .int .i64 (yn : Nat), .slice ia 0 ic, .int .i64 (an : Nat), .int .i64 (bn : Nat)] 53) := ⟨_, rfl⟩
  have HW0 : Hid (W0 = w.alloc (.cells #[.int .i64 3, .int .i64 (fn : Nat), .int .i64 (rn : Nat), .int .i64 (un : Nat), .int .i64 (xp : Nat), .int .i64 (xn : Nat), .int .i64 (yp : Nat), .int .i64 (yn : Nat), .slice ia 0 ic, .int .i64 (an : Nat), .int .i64 (bn : Nat)] 53)) := hW0
  have hb0 : Below w.heap.size w W0 := by rw [hW0]; exact (Below.refl _ _).alloc (Nat.le_refl _) _
  have hkb : BoxK 53 W0 w.heap.size 3 (fn : Nat) (rn : Nat) (un : Nat) (xp : Nat) (xn : Nat) (yp : Nat) (yn : Nat) (.slice ia 0 ic) (an : Nat) (bn : Nat) := by rw [hW0]; exact BoxK.new _ w _ _ _ _ _ _ _ _ _ _ _
  obtain ⟨W1, hW1⟩ : ∃ W1, W1 = W0.alloc (.cells #[.string { data := #[111, 110, 101] }, .string { data := #[110, 101, 120, 116] }, .string { data := #[101, 100, 103, 101] }, .string { data := #[97, 108, 108] }, .string { data := #[114, 111, 108, 101] }, .string { data := #[102, 97, 99, 116] }, .string { data := #[112, 97, 105, 114] }] 9) := ⟨_, rfl⟩
  have HW1 : Hid (W0.alloc (.cells #[.string { data := #[111, 110, 101] }, .string { data := #[110, 101, 120, 116] }, .string { data := #[101, 100, 103, 101] }, .string { data := #[97, 108, 108] }, .string { data := #[114, 111, 108, 101] }, .string { data := #[102, 97, 99, 116] }, .string { data := #[112, 97, 105, 114] }] 9) = W1) := hW1.symm
  have hb1 : Below W0.heap.size W0 W1 := by rw [hW1]; exact (Below.refl _ _).alloc (Nat.le_refl _) _
  have hkb1 := hkb.below hb1 hkb.lt
  have hss : W1.heap[W0.heap.size]? = some (.cells #[.string { data := #[111, 110, 101] }, .string { data := #[110, 101, 120, 116] }, .string { data := #[101, 100, 103, 101] }, .string { data := #[97, 108, 108] }, .string { data := #[114, 111, 108, 101] }, .string { data := #[102, 97, 99, 116] }, .string { data := #[112, 97, 105, 114] }] 9 (0, 0)) := by rw [hW1]; exact World.alloc_heap_new W0 _
  have ss : W1.cell? ⟨W0.heap.size, 3, none⟩ = some (.string { data := #[97, 108, 108] }) := by simp [World.cell?, hss]
  have hs1 : w.heap.size ≤ W1.heap.size := Nat.le_trans hb0.size hb1.size
  obtain ⟨W2, hW2⟩ : ∃ W2, W2 = Lib.bytesWorld W1 5 { data := #[97, 108, 108] } := ⟨_, rfl⟩
  obtain ⟨cp, hcp⟩ : ∃ cp, cp = grownCap W1 ({ data := #[97, 108, 108] } : ByteArray).size 0 5 := ⟨_, rfl⟩
  have hcv : (convert 9 28 (.string { data := #[97, 108, 108] })).run Tryz.prog W1 = .ok (.slice (some ⟨W1.heap.size, 0, none⟩) 3 cp) W2 := by
    rw [Lib.run_convert_string_bytes W1 9 28 5 { data := #[97, 108, 108] } Tryz.underlying9 Tryz.underlying28 Tryz.underlying5, ← hW2, ← hcp]
    rfl
  have hb2 : Below W1.heap.size W1 W2 := by rw [hW2]; exact conv_below W1 5 _
  have hkb2 := hkb1.below hb2 hkb1.lt
  have HKb : Hid (∀ V, Keep5 w.heap.size W2 V → BoxK 53 V w.heap.size 3 (fn : Nat) (rn : Nat) (un : Nat) (xp : Nat) (xn : Nat) (yp : Nat) (yn : Nat) (.slice ia 0 ic) (an : Nat) (bn : Nat)) := fun V hV => hkb2.keep5 hV
  have HB2 : Hid (Below w.heap.size w W2) := (hb0.trans (hb1.mono hb0.size)).trans (hb2.mono hs1)
  have hbB : w.heap.size ≤ W2.heap.size := HB2.out.size
  obtain ⟨Z2, hZ2⟩ : ∃ Z, Z = wdK 3 := ⟨_, rfl⟩
  have HZ2 : Hid (Z2 = wdK 3) := hZ2
  obtain ⟨v2, hv2⟩ : ∃ v, v = Value.slice (some ⟨W1.heap.size, 0, none⟩) 3 cp := ⟨_, rfl⟩
  have HT2 : Hid (OwnB w.heap.size W2 v2 Z2 ∧ Keep5 w.heap.size W2 W2) := by
    refine ⟨?_, Keep5.refl _ _⟩
    rw [hv2, hW2, hcp, hZ2]
    exact ownsZ_conv W1 w.heap.size 5 { data := #[97, 108, 108] } hs1 (by unfold maxLen; decide)
  have HL2 : Hid (Z2.length ≤ 8) := by rw [Hid, hZ2]; decide
  rw [← hv2] at hcv
  obtain ⟨i0, hi0, hz0, hz1, hz2⟩ := info_parts Tryz.info5d
  have hdf := digT_len fn
  have hdr0 := digT_len rn
  have hdu := digT_len un
  have hda0 := digT_len an
  have hdb0 := digT_len bn
  obtain ⟨y0, y1, y2, y3, y4, y5, y6, y7, y8, y9, y10⟩ := hkb.cells
  obtain ⟨m0, m1, m2, m3, m4, m5, m6, m7, m8, m9, m10⟩ := hkb1.cells
  clear hW0 hW1 hW2 hb0 hb1 hb2 hkb hkb1 hkb2 hss hs1 hcp hZ2 hv2
  go_enter Tryz.func19, Tryz.ntmps19
  go_upto_region 1 with fail
  rw [← HW0.out]
  have h1 := HW1.out
  go_upto_region 2 with fail
  clear y0 y1 y2 y3 y4 y5 y6 y7 y8 y9 y10 m0 m1 m2 m3 m4 m5 m6 m7 m8 m9 m10 h1 ss hcv
  obtain ⟨y0, y1, y2, y3, y4, y5, y6, y7, y8, y9, y10⟩ := (HKb.out _ HT2.out.2).cells
  have HKd3 : Hid (W2.drew.cell? ⟨w.heap.size, 2, none⟩ = some (.int .i64 (rn : Nat))) := by have q := (HKb.out _ HT2.out.2).cells; exact q.2.2.1
  have HTd3 : Hid (OwnB w.heap.size W2.drew v2 Z2 ∧ Keep5 w.heap.size W2 W2.drew) := ⟨HT2.out.1, HT2.out.2.drew⟩
  have HHc3 : Hid (∀ V, Keep5 w.heap.size W2 V → V.cell? ⟨w.heap.size, 2, none⟩ = some (.int .i64 (rn : Nat))) := fun V hV => by have q := (HKb.out _ hV).cells; exact q.2.2.1
  go_upto_region 5 with fail
  first
  | go_region_held3 (fun V => V.cell? ⟨w.heap.size, 2, none⟩ = some (.int .i64 (rn : Nat))) (first | with_reducible exact HKd3.out | with_reducible exact HHc3.out _ HA3.out.2 | with_reducible exact HHc3.out _ HC3.out.2 | with_reducible exact HHc3.out _ HT3.out.2) (first
    | (refine step_append_strAt rfl (.tmp 33) (.const (.string rS)) 28 9 rfl w.heap.size 5 i0 Tryz.underlying28 Tryz.underlying9 hi0 hz0 hz1 hz2 v2 Z2.length (Z2.map (Value.int .u8)) (by simp [Act.eval]) (HTd3.out.1 : OwnB w.heap.size W2.drew v2 Z2) rS rfl (by have := HL2.out; have := rS_size; have := rW_len; unfold maxLen; omega) (by have := HL2.out; have := rS_size; have := rW_len; omega) (Nat.le_trans hbB HTd3.out.2.1.size) ?_; intro va3 wa3 ho hg hn; have HA3 : Hid (OwnB w.heap.size wa3 va3 (Z2 ++ rW) ∧ Keep5 w.heap.size W2 wa3) := ⟨(ownB_app (ys := rW) HTd3.out.1 (Nat.le_trans hbB HTd3.out.2.1.size) (by rw [rS_size, rS_cells] at ho; exact ho) hg).1, HTd3.out.2.trans (ownB_app (ys := rW) HTd3.out.1 (Nat.le_trans hbB HTd3.out.2.1.size) (by rw [rS_size, rS_cells] at ho; exact ho) hg).2⟩; obtain ⟨Za3, hZa⟩ : ∃ Zx, Zx = Z2 ++ rW := ⟨_, rfl⟩; rw [← hZa] at HA3; have HZa3 : Hid (Za3 = Z2 ++ rW) := hZa; have HLa3 : Hid (Za3.length ≤ 22) := (by have := HL2.out; have := rW_len; rw [Hid, hZa, List.length_append]; omega); clear ho hg hn hZa)
    | (go_at_call 17; refine (l5digits_any hrn wa3).mono ?_; rintro e wc3 ⟨vd, rfl, hd, hb⟩; have HC3 : Hid (OwnB w.heap.size wc3 va3 Za3 ∧ Keep5 w.heap.size W2 wc3) := ⟨OwnB.below HA3.out.1 hb (Nat.le_refl _), HA3.out.2.trans (Keep5.of_below hb (Nat.le_trans hbB HA3.out.2.1.size))⟩; obtain ⟨da3, dc3, db3, rfl, hdr, hda, _, _⟩ := hd.form (digT_bytz hrn); obtain rfl := hda.resolve_left (by omega); have HN3 : Hid (∀ j u, ((digT rn).map (Value.int .u8))[j]? = some u → wc3.cell? ((⟨db3, 0, none⟩ : Addr).add j) = some u) := rd_news hdr; clear hd hb hdr)
    | (refine stepZ_lies wc3 rfl (.tmp 34) (.tmp 37) 28 rfl w.heap.size 5 i0 (.int .u8 0) 1 1 Tryz.underlying28 hi0 hz0 hz1 hz2 rfl (by decide) va3 Za3.length (Za3.map (Value.int .u8)) (by simp [Act.eval]) HC3.out.1 ⟨db3, 0, none⟩ (digT rn).length dc3 ((digT rn).map (Value.int .u8)) (by simp [Act.eval]) (by simp) HN3.out (oneCB _) (by omega) (by have := HLa3.out; unfold maxLen; omega) (by have := HLa3.out; omega) (Nat.le_trans hbB HC3.out.2.1.size) _ rfl ?_; intro g3 cap3 w3 ho hg ha hl; have HT3 : Hid (OwnB w.heap.size w3 (.slice (some ⟨g3, 0, none⟩) (Za3.length + (digT rn).length) cap3) (Za3 ++ digT rn) ∧ Keep5 w.heap.size W2 w3) := ⟨(ownB_app HC3.out.1 (Nat.le_trans hbB HC3.out.2.1.size) ho hg).1, HC3.out.2.trans (ownB_app HC3.out.1 (Nat.le_trans hbB HC3.out.2.1.size) ho hg).2⟩; clear ho hg ha hl))
  | fail
  (try go_simp)
  obtain ⟨v3, hv⟩ : ∃ v, v = Value.slice (some ⟨g3, 0, none⟩) (Za3.length + (digT rn).length) cap3 := ⟨_, rfl⟩
  rw [← hv] at HT3
  (try rw [← hv])
  obtain ⟨Z3, hZ⟩ : ∃ Zx, Zx = Za3 ++ digT rn := ⟨_, rfl⟩
  rw [← hZ] at HT3
  have HZ3 : Hid (Z3 = Z2 ++ rW ++ digT rn) := by rw [Hid, hZ, HZa3.out]
  have HL3 : Hid (Z3.length ≤ 24) := by have := HLa3.out; rw [Hid, hZ, List.length_append]; omega
  clear hv hZ y0 y1 y2 y3 y4 y5 y6 y7 y8 y9 y10
  obtain ⟨y0, y1, y2, y3, y4, y5, y6, y7, y8, y9, y10⟩ := (HKb.out _ HT3.out.2).cells
  have HZE : Hid (Z3 = wdK 3 ++ numsK 3 fn rn un an bn) := by rw [Hid, HZ3.out, HZ2.out]; simp [numsK, hasF, hasR, hasU, hasP]
  have HKd10 : Hid (w3.drew.cell? ⟨w.heap.size, 4, none⟩ = some (.int .i64 (xp : Nat)) ∧ w3.drew.cell? ⟨w.heap.size, 5, none⟩ = some (.int .i64 (xn : Nat)) ∧ w3.drew.cell? ⟨w.heap.size, 6, none⟩ = some (.int .i64 (yp : Nat)) ∧ w3.drew.cell? ⟨w.heap.size, 7, none⟩ = some (.int .i64 (yn : Nat))) := by have q := (HKb.out _ HT3.out.2).cells; exact ⟨q.2.2.2.2.1, q.2.2.2.2.2.1, q.2.2.2.2.2.2.1, q.2.2.2.2.2.2.2.1⟩
  have HHc10 : Hid (∀ V, Keep5 w.heap.size W2 V → V.cell? ⟨w.heap.size, 4, none⟩ = some (.int .i64 (xp : Nat)) ∧ V.cell? ⟨w.heap.size, 5, none⟩ = some (.int .i64 (xn : Nat)) ∧ V.cell? ⟨w.heap.size, 6, none⟩ = some (.int .i64 (yp : Nat)) ∧ V.cell? ⟨w.heap.size, 7, none⟩ = some (.int .i64 (yn : Nat))) := fun V hV => by have q := (HKb.out _ hV).cells; exact ⟨q.2.2.2.2.1, q.2.2.2.2.2.1, q.2.2.2.2.2.2.1, q.2.2.2.2.2.2.2.1⟩
  have HTd10 : Hid (OwnB w.heap.size w3.drew v3 Z3 ∧ Keep5 w.heap.size W2 w3.drew) := ⟨HT3.out.1, HT3.out.2.drew⟩
  have HLx : Hid ((Z3 ++ litsW xp xn [120] 24).length ≤ 1000000) := by
    have h1 := litsW_len xp xn [120] 24
    have h2 := HL3.out
    simp only [List.length_cons, List.length_nil] at h1
    rw [Hid, List.length_append]; omega
  have hLz : Z3.length ≤ 1000000 := by have := HL3.out; omega
  go_upto_region 10 with fail
  first
  | go_region_held3 (fun V => V.cell? ⟨w.heap.size, 4, none⟩ = some (.int .i64 (xp : Nat)) ∧ V.cell? ⟨w.heap.size, 5, none⟩ = some (.int .i64 (xn : Nat)) ∧ V.cell? ⟨w.heap.size, 6, none⟩ = some (.int .i64 (yp : Nat)) ∧ V.cell? ⟨w.heap.size, 7, none⟩ = some (.int .i64 (yn : Nat))) (first | with_reducible exact HKd10.out | with_reducible exact HHc10.out _ HT11.out.2 | with_reducible exact HHc10.out _ HT12.out.2) (first
    | (go_at_call_of 42 (Value.string ⟨#[120]⟩); refine (l5lits_any xS [120] xS_cells (by decide) hxp hxn HTd10.out.1 (Nat.le_trans hbB HTd10.out.2.1.size) hLz).mono ?_; rintro e w11 ⟨v11, rfl, h1, h2⟩; have HT11 : Hid (OwnB w.heap.size w11 v11 (Z3 ++ litsW xp xn [120] 24) ∧ Keep5 w.heap.size W2 w11) := ⟨h1, HTd10.out.2.trans h2⟩; clear h1 h2)
    | (go_at_call_of 42 (Value.string ⟨#[121]⟩); refine (l5lits_any yS [121] yS_cells (by decide) hyp hyn HT11.out.1 (Nat.le_trans hbB HT11.out.2.1.size) HLx.out).mono ?_; rintro e w12 ⟨v12, rfl, h1, h2⟩; have HT12 : Hid (OwnB w.heap.size w12 v12 (Z3 ++ litsW xp xn [120] 24 ++ litsW yp yn [121] 24) ∧ Keep5 w.heap.size W2 w12) := ⟨h1, HT11.out.2.trans h2⟩; clear h1 h2))
  | fail
  (try go_simp)
  clear y0 y1 y2 y3 y4 y5 y6 y7 y8 y9 y10
  obtain ⟨y0, y1, y2, y3, y4, y5, y6, y7, y8, y9, y10⟩ := (HKb.out _ HT12.out.2).cells
  go_wp2_with fail
  refine wp_loop_rounds 1 ?_
  rw [rounds_succ]
  go_wp2_with fail
  go_ret
  refine ⟨v12, rfl, ?_, HB2.out.trans HT12.out.2.1⟩
  rw [show wdK 3 ++ numsK 3 fn rn un an bn = Z3 from by rw [HZE.out]]
  exact HT12.out.1
end

section
open Go.RowKit
set_option linter.unusedVariables false

set_option maxRecDepth 100000 in
set_option maxHeartbeats 8000000 in
theorem l5text_4 {fn rn un xp xn yp yn an bn : Nat} {ia : Option Addr} {ic : Nat} {w : World} (hfn : fn < 100) (hrn : rn < 100) (hun : un < 100) (han : an < 100) (hbn : bn < 100) (hxp : xp < 16777216) (hxn : xn < 16777216) (hyp : yp < 16777216) (hyn : yn < 16777216) :
    Calls Tryz.prog 19 #[.agg #[.int .i64 4, .int .i64 (fn : Nat), .int .i64 (rn : Nat), .int .i64 (un : Nat), .int .i64 (xp : Nat), .int .i64 (xn : Nat), .int .i64 (yp : Nat), .int .i64 (yn : Nat), .slice ia 0 ic, .int .i64 (an : Nat), .int .i64 (bn : Nat)]] w fun e w' => ∃ v, e = .returned v ∧ OwnB w.heap.size w' v (wdK 4 ++ numsK 4 fn rn un an bn ++ litsW xp xn [120] 24 ++ litsW yp yn [121] 24) ∧ Below w.heap.size w w' := by
  obtain ⟨W0, hW0⟩ : ∃ W0, W0 = w.alloc (.cells #[.int .i64 4, .int .i64 (fn : Nat), .int .i64 (rn : Nat), .int .i64 (un : Nat), .int .i64 (xp : Nat), .int .i64 (xn : Nat), .int .i64 (yp : Nat), .int .i64 (yn : Nat), .slice ia 0 ic, .int .i64 (an : Nat), .int .i64 (bn : Nat)] 53) := ⟨_, rfl⟩
  have HW0 : Hid (W0 = w.alloc (.cells #[.int .i64 4, .int .i64 (fn : Nat), .int .i64 (rn : Nat), .int .i64 (un : Nat), .int .i64 (xp : Nat), .int .i64 (xn : Nat), .int .i64 (yp : Nat), .int .i64 (yn : Nat), .slice ia 0 ic, .int .i64 (an : Nat), .int .i64 (bn : Nat)] 53)) := hW0
  have hb0 : Below w.heap.size w W0 := by rw [hW0]; exact (Below.refl _ _).alloc (Nat.le_refl _) _
  have hkb : BoxK 53 W0 w.heap.size 4 (fn : Nat) (rn : Nat) (un : Nat) (xp : Nat) (xn : Nat) (yp : Nat) (yn : Nat) (.slice ia 0 ic) (an : Nat) (bn : Nat) := by rw [hW0]; exact BoxK.new _ w _ _ _ _ _ _ _ _ _ _ _
  obtain ⟨W1, hW1⟩ : ∃ W1, W1 = W0.alloc (.cells #[.string { data := #[111, 110, 101] }, .string { data := #[110, 101, 120, 116] }, .string { data := #[101, 100, 103, 101] }, .string { data := #[97, 108, 108] }, .string { data := #[114, 111, 108, 101] }, .string { data := #[102, 97, 99, 116] }, .string { data := #[112, 97, 105, 114] }] 9) := ⟨_, rfl⟩
  have HW1 : Hid (W0.alloc (.cells #[.string { data := #[111, 110, 101] }, .string { data := #[110, 101, 120, 116] }, .string { data := #[101, 100, 103, 101] }, .string { data := #[97, 108, 108] }, .string { data := #[114, 111, 108, 101] }, .string { data := #[102, 97, 99, 116] }, .string { data := #[112, 97, 105, 114] }] 9) = W1) := hW1.symm
  have hb1 : Below W0.heap.size W0 W1 := by rw [hW1]; exact (Below.refl _ _).alloc (Nat.le_refl _) _
  have hkb1 := hkb.below hb1 hkb.lt
  have hss : W1.heap[W0.heap.size]? = some (.cells #[.string { data := #[111, 110, 101] }, .string { data := #[110, 101, 120, 116] }, .string { data := #[101, 100, 103, 101] }, .string { data := #[97, 108, 108] }, .string { data := #[114, 111, 108, 101] }, .string { data := #[102, 97, 99, 116] }, .string { data := #[112, 97, 105, 114] }] 9 (0, 0)) := by rw [hW1]; exact World.alloc_heap_new W0 _
  have ss : W1.cell? ⟨W0.heap.size, 4, none⟩ = some (.string { data := #[114, 111, 108, 101] }) := by simp [World.cell?, hss]
  have hs1 : w.heap.size ≤ W1.heap.size := Nat.le_trans hb0.size hb1.size
  obtain ⟨W2, hW2⟩ : ∃ W2, W2 = Lib.bytesWorld W1 5 { data := #[114, 111, 108, 101] } := ⟨_, rfl⟩
  obtain ⟨cp, hcp⟩ : ∃ cp, cp = grownCap W1 ({ data := #[114, 111, 108, 101] } : ByteArray).size 0 5 := ⟨_, rfl⟩
  have hcv : (convert 9 28 (.string { data := #[114, 111, 108, 101] })).run Tryz.prog W1 = .ok (.slice (some ⟨W1.heap.size, 0, none⟩) 4 cp) W2 := by
    rw [Lib.run_convert_string_bytes W1 9 28 5 { data := #[114, 111, 108, 101] } Tryz.underlying9 Tryz.underlying28 Tryz.underlying5, ← hW2, ← hcp]
    rfl
  have hb2 : Below W1.heap.size W1 W2 := by rw [hW2]; exact conv_below W1 5 _
  have hkb2 := hkb1.below hb2 hkb1.lt
  have HKb : Hid (∀ V, Keep5 w.heap.size W2 V → BoxK 53 V w.heap.size 4 (fn : Nat) (rn : Nat) (un : Nat) (xp : Nat) (xn : Nat) (yp : Nat) (yn : Nat) (.slice ia 0 ic) (an : Nat) (bn : Nat)) := fun V hV => hkb2.keep5 hV
  have HB2 : Hid (Below w.heap.size w W2) := (hb0.trans (hb1.mono hb0.size)).trans (hb2.mono hs1)
  have hbB : w.heap.size ≤ W2.heap.size := HB2.out.size
  obtain ⟨Z2, hZ2⟩ : ∃ Z, Z = wdK 4 := ⟨_, rfl⟩
  have HZ2 : Hid (Z2 = wdK 4) := hZ2
  obtain ⟨v2, hv2⟩ : ∃ v, v = Value.slice (some ⟨W1.heap.size, 0, none⟩) 4 cp := ⟨_, rfl⟩
  have HT2 : Hid (OwnB w.heap.size W2 v2 Z2 ∧ Keep5 w.heap.size W2 W2) := by
    refine ⟨?_, Keep5.refl _ _⟩
    rw [hv2, hW2, hcp, hZ2]
    exact ownsZ_conv W1 w.heap.size 5 { data := #[114, 111, 108, 101] } hs1 (by unfold maxLen; decide)
  have HL2 : Hid (Z2.length ≤ 8) := by rw [Hid, hZ2]; decide
  rw [← hv2] at hcv
  obtain ⟨i0, hi0, hz0, hz1, hz2⟩ := info_parts Tryz.info5d
  have hdf := digT_len fn
  have hdr0 := digT_len rn
  have hdu := digT_len un
  have hda0 := digT_len an
  have hdb0 := digT_len bn
  obtain ⟨y0, y1, y2, y3, y4, y5, y6, y7, y8, y9, y10⟩ := hkb.cells
  obtain ⟨m0, m1, m2, m3, m4, m5, m6, m7, m8, m9, m10⟩ := hkb1.cells
  clear hW0 hW1 hW2 hb0 hb1 hb2 hkb hkb1 hkb2 hss hs1 hcp hZ2 hv2
  go_enter Tryz.func19, Tryz.ntmps19
  go_upto_region 1 with fail
  rw [← HW0.out]
  have h1 := HW1.out
  go_upto_region 2 with fail
  clear y0 y1 y2 y3 y4 y5 y6 y7 y8 y9 y10 m0 m1 m2 m3 m4 m5 m6 m7 m8 m9 m10 h1 ss hcv
  obtain ⟨y0, y1, y2, y3, y4, y5, y6, y7, y8, y9, y10⟩ := (HKb.out _ HT2.out.2).cells
  have HKd3 : Hid (W2.drew.cell? ⟨w.heap.size, 2, none⟩ = some (.int .i64 (rn : Nat))) := by have q := (HKb.out _ HT2.out.2).cells; exact q.2.2.1
  have HTd3 : Hid (OwnB w.heap.size W2.drew v2 Z2 ∧ Keep5 w.heap.size W2 W2.drew) := ⟨HT2.out.1, HT2.out.2.drew⟩
  have HHc3 : Hid (∀ V, Keep5 w.heap.size W2 V → V.cell? ⟨w.heap.size, 2, none⟩ = some (.int .i64 (rn : Nat))) := fun V hV => by have q := (HKb.out _ hV).cells; exact q.2.2.1
  go_upto_region 5 with fail
  first
  | go_region_held3 (fun V => V.cell? ⟨w.heap.size, 2, none⟩ = some (.int .i64 (rn : Nat))) (first | with_reducible exact HKd3.out | with_reducible exact HHc3.out _ HA3.out.2 | with_reducible exact HHc3.out _ HC3.out.2 | with_reducible exact HHc3.out _ HT3.out.2) (first
    | (refine step_append_strAt rfl (.tmp 33) (.const (.string rS)) 28 9 rfl w.heap.size 5 i0 Tryz.underlying28 Tryz.underlying9 hi0 hz0 hz1 hz2 v2 Z2.length (Z2.map (Value.int .u8)) (by simp [Act.eval]) (HTd3.out.1 : OwnB w.heap.size W2.drew v2 Z2) rS rfl (by have := HL2.out; have := rS_size; have := rW_len; unfold maxLen; omega) (by have := HL2.out; have := rS_size; have := rW_len; omega) (Nat.le_trans hbB HTd3.out.2.1.size) ?_; intro va3 wa3 ho hg hn; have HA3 : Hid (OwnB w.heap.size wa3 va3 (Z2 ++ rW) ∧ Keep5 w.heap.size W2 wa3) := ⟨(ownB_app (ys := rW) HTd3.out.1 (Nat.le_trans hbB HTd3.out.2.1.size) (by rw [rS_size, rS_cells] at ho; exact ho) hg).1, HTd3.out.2.trans (ownB_app (ys := rW) HTd3.out.1 (Nat.le_trans hbB HTd3.out.2.1.size) (by rw [rS_size, rS_cells] at ho; exact ho) hg).2⟩; obtain ⟨Za3, hZa⟩ : ∃ Zx, Zx = Z2 ++ rW := ⟨_, rfl⟩; rw [← hZa] at HA3; have HZa3 : Hid (Za3 = Z2 ++ rW) := hZa; have HLa3 : Hid (Za3.length ≤ 22) := (by have := HL2.out; have := rW_len; rw [Hid, hZa, List.length_append]; omega); clear ho hg hn hZa)
    | (go_at_call 17; refine (l5digits_any hrn wa3).mono ?_; rintro e wc3 ⟨vd, rfl, hd, hb⟩; have HC3 : Hid (OwnB w.heap.size wc3 va3 Za3 ∧ Keep5 w.heap.size W2 wc3) := ⟨OwnB.below HA3.out.1 hb (Nat.le_refl _), HA3.out.2.trans (Keep5.of_below hb (Nat.le_trans hbB HA3.out.2.1.size))⟩; obtain ⟨da3, dc3, db3, rfl, hdr, hda, _, _⟩ := hd.form (digT_bytz hrn); obtain rfl := hda.resolve_left (by omega); have HN3 : Hid (∀ j u, ((digT rn).map (Value.int .u8))[j]? = some u → wc3.cell? ((⟨db3, 0, none⟩ : Addr).add j) = some u) := rd_news hdr; clear hd hb hdr)
    | (refine stepZ_lies wc3 rfl (.tmp 34) (.tmp 37) 28 rfl w.heap.size 5 i0 (.int .u8 0) 1 1 Tryz.underlying28 hi0 hz0 hz1 hz2 rfl (by decide) va3 Za3.length (Za3.map (Value.int .u8)) (by simp [Act.eval]) HC3.out.1 ⟨db3, 0, none⟩ (digT rn).length dc3 ((digT rn).map (Value.int .u8)) (by simp [Act.eval]) (by simp) HN3.out (oneCB _) (by omega) (by have := HLa3.out; unfold maxLen; omega) (by have := HLa3.out; omega) (Nat.le_trans hbB HC3.out.2.1.size) _ rfl ?_; intro g3 cap3 w3 ho hg ha hl; have HT3 : Hid (OwnB w.heap.size w3 (.slice (some ⟨g3, 0, none⟩) (Za3.length + (digT rn).length) cap3) (Za3 ++ digT rn) ∧ Keep5 w.heap.size W2 w3) := ⟨(ownB_app HC3.out.1 (Nat.le_trans hbB HC3.out.2.1.size) ho hg).1, HC3.out.2.trans (ownB_app HC3.out.1 (Nat.le_trans hbB HC3.out.2.1.size) ho hg).2⟩; clear ho hg ha hl))
  | fail
  (try go_simp)
  obtain ⟨v3, hv⟩ : ∃ v, v = Value.slice (some ⟨g3, 0, none⟩) (Za3.length + (digT rn).length) cap3 := ⟨_, rfl⟩
  rw [← hv] at HT3
  (try rw [← hv])
  obtain ⟨Z3, hZ⟩ : ∃ Zx, Zx = Za3 ++ digT rn := ⟨_, rfl⟩
  rw [← hZ] at HT3
  have HZ3 : Hid (Z3 = Z2 ++ rW ++ digT rn) := by rw [Hid, hZ, HZa3.out]
  have HL3 : Hid (Z3.length ≤ 24) := by have := HLa3.out; rw [Hid, hZ, List.length_append]; omega
  clear hv hZ y0 y1 y2 y3 y4 y5 y6 y7 y8 y9 y10
  obtain ⟨y0, y1, y2, y3, y4, y5, y6, y7, y8, y9, y10⟩ := (HKb.out _ HT3.out.2).cells
  have HKd4 : Hid (w3.drew.cell? ⟨w.heap.size, 3, none⟩ = some (.int .i64 (un : Nat))) := by have q := (HKb.out _ HT3.out.2).cells; exact q.2.2.2.1
  have HTd4 : Hid (OwnB w.heap.size w3.drew v3 Z3 ∧ Keep5 w.heap.size W2 w3.drew) := ⟨HT3.out.1, HT3.out.2.drew⟩
  have HHc4 : Hid (∀ V, Keep5 w.heap.size W2 V → V.cell? ⟨w.heap.size, 3, none⟩ = some (.int .i64 (un : Nat))) := fun V hV => by have q := (HKb.out _ hV).cells; exact q.2.2.2.1
  go_upto_region 7 with fail
  first
  | go_region_held3 (fun V => V.cell? ⟨w.heap.size, 3, none⟩ = some (.int .i64 (un : Nat))) (first | with_reducible exact HKd4.out | with_reducible exact HHc4.out _ HA4.out.2 | with_reducible exact HHc4.out _ HC4.out.2 | with_reducible exact HHc4.out _ HT4.out.2) (first
    | (refine step_append_strAt rfl (.tmp 42) (.const (.string rS)) 28 9 rfl w.heap.size 5 i0 Tryz.underlying28 Tryz.underlying9 hi0 hz0 hz1 hz2 v3 Z3.length (Z3.map (Value.int .u8)) (by simp [Act.eval]) (HTd4.out.1 : OwnB w.heap.size w3.drew v3 Z3) rS rfl (by have := HL3.out; have := rS_size; have := rW_len; unfold maxLen; omega) (by have := HL3.out; have := rS_size; have := rW_len; omega) (Nat.le_trans hbB HTd4.out.2.1.size) ?_; intro va4 wa4 ho hg hn; have HA4 : Hid (OwnB w.heap.size wa4 va4 (Z3 ++ rW) ∧ Keep5 w.heap.size W2 wa4) := ⟨(ownB_app (ys := rW) HTd4.out.1 (Nat.le_trans hbB HTd4.out.2.1.size) (by rw [rS_size, rS_cells] at ho; exact ho) hg).1, HTd4.out.2.trans (ownB_app (ys := rW) HTd4.out.1 (Nat.le_trans hbB HTd4.out.2.1.size) (by rw [rS_size, rS_cells] at ho; exact ho) hg).2⟩; obtain ⟨Za4, hZa⟩ : ∃ Zx, Zx = Z3 ++ rW := ⟨_, rfl⟩; rw [← hZa] at HA4; have HZa4 : Hid (Za4 = Z3 ++ rW) := hZa; have HLa4 : Hid (Za4.length ≤ 28) := (by have := HL3.out; have := rW_len; rw [Hid, hZa, List.length_append]; omega); clear ho hg hn hZa)
    | (go_at_call 17; refine (l5digits_any hun wa4).mono ?_; rintro e wc4 ⟨vd, rfl, hd, hb⟩; have HC4 : Hid (OwnB w.heap.size wc4 va4 Za4 ∧ Keep5 w.heap.size W2 wc4) := ⟨OwnB.below HA4.out.1 hb (Nat.le_refl _), HA4.out.2.trans (Keep5.of_below hb (Nat.le_trans hbB HA4.out.2.1.size))⟩; obtain ⟨da4, dc4, db4, rfl, hdr, hda, _, _⟩ := hd.form (digT_bytz hun); obtain rfl := hda.resolve_left (by omega); have HN4 : Hid (∀ j u, ((digT un).map (Value.int .u8))[j]? = some u → wc4.cell? ((⟨db4, 0, none⟩ : Addr).add j) = some u) := rd_news hdr; clear hd hb hdr)
    | (refine stepZ_lies wc4 rfl (.tmp 43) (.tmp 46) 28 rfl w.heap.size 5 i0 (.int .u8 0) 1 1 Tryz.underlying28 hi0 hz0 hz1 hz2 rfl (by decide) va4 Za4.length (Za4.map (Value.int .u8)) (by simp [Act.eval]) HC4.out.1 ⟨db4, 0, none⟩ (digT un).length dc4 ((digT un).map (Value.int .u8)) (by simp [Act.eval]) (by simp) HN4.out (oneCB _) (by omega) (by have := HLa4.out; unfold maxLen; omega) (by have := HLa4.out; omega) (Nat.le_trans hbB HC4.out.2.1.size) _ rfl ?_; intro g4 cap4 w4 ho hg ha hl; have HT4 : Hid (OwnB w.heap.size w4 (.slice (some ⟨g4, 0, none⟩) (Za4.length + (digT un).length) cap4) (Za4 ++ digT un) ∧ Keep5 w.heap.size W2 w4) := ⟨(ownB_app HC4.out.1 (Nat.le_trans hbB HC4.out.2.1.size) ho hg).1, HC4.out.2.trans (ownB_app HC4.out.1 (Nat.le_trans hbB HC4.out.2.1.size) ho hg).2⟩; clear ho hg ha hl))
  | fail
  (try go_simp)
  obtain ⟨v4, hv⟩ : ∃ v, v = Value.slice (some ⟨g4, 0, none⟩) (Za4.length + (digT un).length) cap4 := ⟨_, rfl⟩
  rw [← hv] at HT4
  (try rw [← hv])
  obtain ⟨Z4, hZ⟩ : ∃ Zx, Zx = Za4 ++ digT un := ⟨_, rfl⟩
  rw [← hZ] at HT4
  have HZ4 : Hid (Z4 = Z3 ++ rW ++ digT un) := by rw [Hid, hZ, HZa4.out]
  have HL4 : Hid (Z4.length ≤ 30) := by have := HLa4.out; rw [Hid, hZ, List.length_append]; omega
  clear hv hZ y0 y1 y2 y3 y4 y5 y6 y7 y8 y9 y10
  obtain ⟨y0, y1, y2, y3, y4, y5, y6, y7, y8, y9, y10⟩ := (HKb.out _ HT4.out.2).cells
  have HZE : Hid (Z4 = wdK 4 ++ numsK 4 fn rn un an bn) := by rw [Hid, HZ4.out, HZ3.out, HZ2.out]; simp [numsK, hasF, hasR, hasU, hasP]
  have HKd10 : Hid (w4.drew.cell? ⟨w.heap.size, 4, none⟩ = some (.int .i64 (xp : Nat)) ∧ w4.drew.cell? ⟨w.heap.size, 5, none⟩ = some (.int .i64 (xn : Nat)) ∧ w4.drew.cell? ⟨w.heap.size, 6, none⟩ = some (.int .i64 (yp : Nat)) ∧ w4.drew.cell? ⟨w.heap.size, 7, none⟩ = some (.int .i64 (yn : Nat))) := by have q := (HKb.out _ HT4.out.2).cells; exact ⟨q.2.2.2.2.1, q.2.2.2.2.2.1, q.2.2.2.2.2.2.1, q.2.2.2.2.2.2.2.1⟩
  have HHc10 : Hid (∀ V, Keep5 w.heap.size W2 V → V.cell? ⟨w.heap.size, 4, none⟩ = some (.int .i64 (xp : Nat)) ∧ V.cell? ⟨w.heap.size, 5, none⟩ = some (.int .i64 (xn : Nat)) ∧ V.cell? ⟨w.heap.size, 6, none⟩ = some (.int .i64 (yp : Nat)) ∧ V.cell? ⟨w.heap.size, 7, none⟩ = some (.int .i64 (yn : Nat))) := fun V hV => by have q := (HKb.out _ hV).cells; exact ⟨q.2.2.2.2.1, q.2.2.2.2.2.1, q.2.2.2.2.2.2.1, q.2.2.2.2.2.2.2.1⟩
  have HTd10 : Hid (OwnB w.heap.size w4.drew v4 Z4 ∧ Keep5 w.heap.size W2 w4.drew) := ⟨HT4.out.1, HT4.out.2.drew⟩
  have HLx : Hid ((Z4 ++ litsW xp xn [120] 24).length ≤ 1000000) := by
    have h1 := litsW_len xp xn [120] 24
    have h2 := HL4.out
    simp only [List.length_cons, List.length_nil] at h1
    rw [Hid, List.length_append]; omega
  have hLz : Z4.length ≤ 1000000 := by have := HL4.out; omega
  go_upto_region 10 with fail
  first
  | go_region_held3 (fun V => V.cell? ⟨w.heap.size, 4, none⟩ = some (.int .i64 (xp : Nat)) ∧ V.cell? ⟨w.heap.size, 5, none⟩ = some (.int .i64 (xn : Nat)) ∧ V.cell? ⟨w.heap.size, 6, none⟩ = some (.int .i64 (yp : Nat)) ∧ V.cell? ⟨w.heap.size, 7, none⟩ = some (.int .i64 (yn : Nat))) (first | with_reducible exact HKd10.out | with_reducible exact HHc10.out _ HT11.out.2 | with_reducible exact HHc10.out _ HT12.out.2) (first
    | (go_at_call_of 42 (Value.string ⟨#[120]⟩); refine (l5lits_any xS [120] xS_cells (by decide) hxp hxn HTd10.out.1 (Nat.le_trans hbB HTd10.out.2.1.size) hLz).mono ?_; rintro e w11 ⟨v11, rfl, h1, h2⟩; have HT11 : Hid (OwnB w.heap.size w11 v11 (Z4 ++ litsW xp xn [120] 24) ∧ Keep5 w.heap.size W2 w11) := ⟨h1, HTd10.out.2.trans h2⟩; clear h1 h2)
    | (go_at_call_of 42 (Value.string ⟨#[121]⟩); refine (l5lits_any yS [121] yS_cells (by decide) hyp hyn HT11.out.1 (Nat.le_trans hbB HT11.out.2.1.size) HLx.out).mono ?_; rintro e w12 ⟨v12, rfl, h1, h2⟩; have HT12 : Hid (OwnB w.heap.size w12 v12 (Z4 ++ litsW xp xn [120] 24 ++ litsW yp yn [121] 24) ∧ Keep5 w.heap.size W2 w12) := ⟨h1, HT11.out.2.trans h2⟩; clear h1 h2))
  | fail
  (try go_simp)
  clear y0 y1 y2 y3 y4 y5 y6 y7 y8 y9 y10
  obtain ⟨y0, y1, y2, y3, y4, y5, y6, y7, y8, y9, y10⟩ := (HKb.out _ HT12.out.2).cells
  go_wp2_with fail
  refine wp_loop_rounds 1 ?_
  rw [rounds_succ]
  go_wp2_with fail
  go_ret
  refine ⟨v12, rfl, ?_, HB2.out.trans HT12.out.2.1⟩
  rw [show wdK 4 ++ numsK 4 fn rn un an bn = Z4 from by rw [HZE.out]]
  exact HT12.out.1
end

end Go.Proofs.YtknainelonaigaaGreatDoor
