/- Several texts in one: ClTxI2K0, ClTxI2K4, ClTxI2K3, ClTxI2K1, ClTxI2K2, ClTxI2K5, ClTxI2K6. -/
import Derived.Test.YtknainelonaigaaGreatDoorClTxJ
namespace Go.Proofs.YtknainelonaigaaGreatDoor

section
open Go.RowKit Go.Shelf
set_option linter.unusedVariables false

attribute [local go_sem] Oper.semAt_some
attribute [local go_sem ↓] about_wide

set_option maxRecDepth 100000 in
set_option maxHeartbeats 8000000 in
theorem implClauseText_0 {fn rn un an bn : Nat} {xp xn yp yn : Int} {ia : Option Addr} {im ic : Nat} {xs : List (Int × Int)} {w : World} {lo hi : Nat} (hR : RP lo hi w ia im ic xs) (hhi : hi ≤ w.heap.size) (hT : TabD w) (hg : 2 < w.heap.size) (hfn : fn < 100) (hrn : rn < 100) (hun : un < 100) (han : an < 100) (hbn : bn < 100) (hok : clauseB 0 (fn : Nat) (rn : Nat) (un : Nat) xp xn yp yn xs (an : Nat) (bn : Nat) = true) :
    Calls Tryz.prog 26 #[.agg #[.int .i64 0, .int .i64 (fn : Nat), .int .i64 (rn : Nat), .int .i64 (un : Nat), .int .i64 xp, .int .i64 xn, .int .i64 yp, .int .i64 yn, .slice ia im ic, .int .i64 (an : Nat), .int .i64 (bn : Nat)]] w fun e w' => ∃ v, e = .returned v ∧ OwnB w.heap.size w' v (clT 0 fn rn un (natP (six xp xn yp yn xs)) an bn) ∧ Below w.heap.size w w' := by
  obtain ⟨KC, hKC⟩ : ∃ KC : Array Value, KC = #[.int .i64 0, .int .i64 (fn : Nat), .int .i64 (rn : Nat), .int .i64 (un : Nat), .int .i64 xp, .int .i64 xn, .int .i64 yp, .int .i64 yn, .slice ia im ic, .int .i64 (an : Nat), .int .i64 (bn : Nat)] := ⟨_, rfl⟩
  have HKC : Hid (KC = #[.int .i64 0, .int .i64 (fn : Nat), .int .i64 (rn : Nat), .int .i64 (un : Nat), .int .i64 xp, .int .i64 xn, .int .i64 yp, .int .i64 yn, .slice ia im ic, .int .i64 (an : Nat), .int .i64 (bn : Nat)]) := hKC
  obtain ⟨SC, hSC⟩ : ∃ SC : Array Value, SC = #[.string { data := #[111, 110, 101] }, .bool false, .bool false, .bool false, .bool true, .bool false, .bool false, .bool false] := ⟨_, rfl⟩
  have HSC : Hid (SC = #[.string { data := #[111, 110, 101] }, .bool false, .bool false, .bool false, .bool true, .bool false, .bool false, .bool false]) := hSC
  have HSV : Hid (shapeV 0 = #[.string { data := #[111, 110, 101] }, .bool false, .bool false, .bool false, .bool true, .bool false, .bool false, .bool false]) := by unfold Hid; simp [shapeV, wordK, hasF, hasR, hasU, hasX, hasY, hasI, hasP]
  obtain ⟨W, hW⟩ : ∃ W, W = w.alloc (.cells #[.int .i64 0, .int .i64 (fn : Nat), .int .i64 (rn : Nat), .int .i64 (un : Nat), .int .i64 xp, .int .i64 xn, .int .i64 yp, .int .i64 yn, .slice ia im ic, .int .i64 (an : Nat), .int .i64 (bn : Nat)] 53) := ⟨_, rfl⟩
  have HW : Hid (W = w.alloc (.cells #[.int .i64 0, .int .i64 (fn : Nat), .int .i64 (rn : Nat), .int .i64 (un : Nat), .int .i64 xp, .int .i64 xn, .int .i64 yp, .int .i64 yn, .slice ia im ic, .int .i64 (an : Nat), .int .i64 (bn : Nat)] 53)) := hW
  have hb0 : Below w.heap.size w W := by rw [hW]; exact (Below.refl _ _).alloc (Nat.le_refl _) _
  have HB0 : Hid (Below w.heap.size w W) := hb0
  have hkb : BoxK 53 W w.heap.size 0 (fn : Nat) (rn : Nat) (un : Nat) xp xn yp yn (.slice ia im ic) (an : Nat) (bn : Nat) := by rw [hW]; exact BoxK.new _ w _ _ _ _ _ _ _ _ _ _ _
  have HKB : Hid (BoxK 53 W w.heap.size 0 (fn : Nat) (rn : Nat) (un : Nat) xp xn yp yn (.slice ia im ic) (an : Nat) (bn : Nat)) := hkb
  have HR : Hid (RP lo hi w ia im ic xs) := hR
  have HRW : Hid (RP lo hi W ia im ic xs) := hR.below hb0 hhi
  have HIm : Hid (im = 0 ∨ im = 4) := by unfold Hid; rw [← hR.len]; exact clauseB_inds hok
  have HPt : Hid (∀ x ∈ six xp xn yp yn xs, partB x.1 x.2 = true) := clauseB_parts hok
  have HTb : Hid (TabD w) := hT
  obtain ⟨y0, y1, y2, y3, y4, y5, y6, y7, y8, y9, y10⟩ := hkb.cells
  clear hkb hR hb0 hT hW hKC hSC
  refine (callsIn_wide (n := 6)).1 ?_
  refine callsIn_of_wp_marks Tryz.func26 rfl trivial ?_ rfl
  simp only [Tryz.ntmps26, List.size_toArray, List.length_cons, List.length_nil, Nat.reduceAdd, Nat.reduceSub, Array.replicate_succ, Array.replicate_zero, List.push_toArray, List.append_toArray, List.nil_append, List.cons_append]
  gi_upto_region 1 with fail
  rw [← HW.out]
  gi_wp2_with fail
  refine (callsIn_wide.2 (implClauseOk_any HRW.out (Nat.le_trans hhi HB0.out.size))).mono ?_
  rintro e w1 ⟨rfl, hb1⟩
  rw [hok]
  have HB1 : Hid (Below w.heap.size w w1) := HB0.out.trans (hb1.mono HB0.out.size)
  have HKB1 : Hid (BoxK 53 w1 w.heap.size 0 (fn : Nat) (rn : Nat) (un : Nat) xp xn yp yn (.slice ia im ic) (an : Nat) (bn : Nat)) := HKB.out.below hb1 HKB.out.lt
  clear hb1 y0 y1 y2 y3 y4 y5 y6 y7 y8 y9 y10
  obtain ⟨y0, y1, y2, y3, y4, y5, y6, y7, y8, y9, y10⟩ := HKB1.out.cells
  gi_wp2_with fail
  refine (callsIn_wide.2 (shapeOf_0 w1)).mono ?_
  rintro e w2 ⟨rfl, hb2⟩
  rw [HSV.out]
  have HB2 : Hid (Below w.heap.size w w2) := HB1.out.trans (hb2.mono HB1.out.size)
  have hkb2 : BoxK 53 w2 w.heap.size 0 (fn : Nat) (rn : Nat) (un : Nat) xp xn yp yn (.slice ia im ic) (an : Nat) (bn : Nat) := HKB1.out.below hb2 HKB1.out.lt
  have hl2 : w.heap.size < w2.heap.size := hkb2.lt
  obtain ⟨W3, hW3⟩ : ∃ W3, W3 = w2.alloc (.cells #[.string { data := #[111, 110, 101] }, .bool false, .bool false, .bool false, .bool true, .bool false, .bool false, .bool false] 91) := ⟨_, rfl⟩
  have HW3 : Hid (w2.alloc (.cells #[.string { data := #[111, 110, 101] }, .bool false, .bool false, .bool false, .bool true, .bool false, .bool false, .bool false] 91) = W3) := hW3.symm
  have hb3 : Below w2.heap.size w2 W3 := by rw [hW3]; exact (Below.refl _ _).alloc (Nat.le_refl _) _
  have hsb3 : BoxS W3 w2.heap.size { data := #[111, 110, 101] } false false false true false false false := by rw [hW3]; exact BoxS.new _ _ _ _ _ _ _ _ _
  have hl3 : w2.heap.size < W3.heap.size := by rw [hW3]; simp
  obtain ⟨W4, hW4⟩ : ∃ W4, W4 = Lib.bytesWorld W3 5 { data := #[111, 110, 101] } := ⟨_, rfl⟩
  obtain ⟨cp, hcp⟩ : ∃ cp, cp = grownCap W3 ({ data := #[111, 110, 101] } : ByteArray).size 0 5 := ⟨_, rfl⟩
  obtain ⟨v2, hv2⟩ : ∃ v, v = Value.slice (some ⟨W3.heap.size, 0, none⟩) 3 cp := ⟨_, rfl⟩
  have hcv : (convert 9 28 (.string { data := #[111, 110, 101] })).run Tryz.prog W3 = .ok (.slice (some ⟨W3.heap.size, 0, none⟩) 3 cp) W4 := by
    rw [Lib.run_convert_string_bytes W3 9 28 5 { data := #[111, 110, 101] } Tryz.underlying9 Tryz.underlying28 Tryz.underlying5, ← hW4, ← hcp]
    rfl
  have hb4 : Below W3.heap.size W3 W4 := by rw [hW4]; exact conv_below W3 5 _
  have hl4 : W3.heap.size < W4.heap.size := by rw [hW4, Lib.bytesWorld_size]; omega
  obtain ⟨X2, hX2⟩ : ∃ X, X = wdK 0 := ⟨_, rfl⟩
  have HX2 : Hid (X2 = wdK 0) := hX2
  have HL2 : Hid (X2.length ≤ 8) := by rw [Hid, hX2]; decide
  have hq : OwnB w.heap.size W4 v2 X2 := by
    rw [hv2, hW4, hcp, hX2]
    exact ownsZ_conv W3 w.heap.size 5 { data := #[111, 110, 101] } (by omega) (by unfold maxLen; decide)
  obtain ⟨V2, hV2⟩ : ∃ V, V = W4.alloc (.cells #[v2] 28) := ⟨_, rfl⟩
  have hb5 : Below W4.heap.size W4 V2 := by rw [hV2]; exact (Below.refl _ _).alloc (Nat.le_refl _) _
  have hkbV := ((hkb2.below hb3 hl2).below hb4 (by omega)).below hb5 (by omega)
  have hsbV := (hsb3.below hb4 hl3).below hb5 (by omega)
  have HC2 : Hid (CtI w.heap.size w.heap.size w2.heap.size W4.heap.size KC SC w V2 v2 X2) := by
    refine ⟨?_, ?_, ?_, ?_, ?_, ?_⟩
    · rw [HKC.out]; exact hkbV
    · rw [HSC.out]; exact hsbV
    · rw [hV2]; exact Boxed.new W4 28 v2
    · rw [hV2]
      exact own_allocT hq _
    · exact ((HB2.out.trans (hb3.mono (by omega))).trans (hb4.mono (by omega))).trans (hb5.mono (by omega))
    · omega
  have HV5 : Hid (W4.alloc (.cells #[.slice (some ⟨W3.heap.size, 0, none⟩) 3 cp] 28) = V2) := by rw [Hid, ← hv2]; exact hV2.symm
  have hne1 : w.heap.size ≠ W4.heap.size := by omega
  have hne2 : w2.heap.size ≠ W4.heap.size := by omega
  gi_upto_region 4 with fail
  rw [HW3.out]
  clear y0 y1 y2 y3 y4 y5 y6 y7 y8 y9 y10
  obtain ⟨s0, s1, s2, s3, s4, s5, s6, s7⟩ := hsb3.cells
  clear hb2 hkb2 hW3 hb3 hsb3 hW4 hcp hv2 hb4 hX2 hV2 hb5 hq
  gi_upto_region 5 with fail
  rw [HV5.out]
  clear hcv s0 s1 s2 s3 s4 s5 s6 s7
  obtain ⟨y0, y1, y2, y3, y4, y5, y6, y7, y8, y9, y10⟩ := hkbV.cells
  obtain ⟨s0, s1, s2, s3, s4, s5, s6, s7⟩ := hsbV.cells
  have oc := Boxed.cell HC2.out.obx
  clear hkbV hsbV
  have HXE : Hid (X2 = wdK 0 ++ numsK 0 fn rn un an bn) := by rw [Hid, HX2.out]; simp [numsK, hasF, hasR, hasU, hasP]
  gi_wp2_with fail
  refine (literals_inC _ V2).mono ?_
  rintro e w3 ⟨rfl, hw3⟩
  have hb3 : Below V2.heap.size V2 w3 := by rw [hw3]; exact (Below.refl _ _).alloc (Nat.le_refl _) _
  have HB3 : Hid (Below w.heap.size w w3) := HC2.out.bel.trans (hb3.mono (Nat.le_trans HC2.out.bas (Nat.le_of_lt (Boxed.lt HC2.out.obx))))
  have hs3 : V2.heap.size + 1 ≤ w3.heap.size := by rw [hw3]; simp
  have HBt : Hid (BoxK 53 w3 V2.heap.size 0 (fn : Nat) (rn : Nat) (un : Nat) xp xn yp yn (.slice ia im ic) (an : Nat) (bn : Nat)) := by unfold Hid; rw [hw3]; exact BoxK.new _ V2 _ _ _ _ _ _ _ _ _ _ _
  have hobl := Boxed.lt HC2.out.obx
  have hbas := HC2.out.bas
  have HI0 : Hid (InvC w.heap.size W4.heap.size w3.heap.size X2 w [] w3) := ⟨⟨v2, boxed_below HC2.out.obx hb3 hobl, by simpa [litsT] using OwnB.below HC2.out.own hb3 (Nat.le_refl _)⟩, HB3.out, Nat.le_refl _, by omega⟩
  have HN : Hid ((litsL 0 (natP (six xp xn yp yn xs))).length ≤ 288) := by
    have := litsL_length (natP (six xp xn yp yn xs)) 0
    have e : (natP (six xp xn yp yn xs)).length = 6 := by simp [natP, six]
    rw [Hid]; omega
  have hn1 : w.heap.size ≤ w3.heap.size := HB3.out.size
  clear hb3 hw3 y0 y1 y2 y3 y4 y5 y6 y7 y8 y9 y10 s0 s1 s2 s3 s4 s5 s6 s7 oc
  gi_wp2_with fail
  refine wpIn_rangeFunc_ownH rfl (by omega) (gf := 83) (lb := #[.pointer (some ⟨V2.heap.size, 0, none⟩)]) rfl trivial (enters_of Tryz.func83 (by kernel_rfl) rfl)
    (lits_stops5 (lo := lo) (hi := hi) (B := w.heap.size) (n1 := w3.heap.size) 5 V2.heap.size hhi (by omega) hg HR.out HIm.out HPt.out HTb.out HB3.out (Nat.le_refl _) HBt.out) Kp5.trans
    (fun W l o o' hl hW hc _ => Kp5.putObj W l o o' (by omega) hW hc) (Below.refl _ _) (fun _ => rfl)
    (fun pre W => InvC w.heap.size W4.heap.size w3.heap.size X2 w (pre.map Subtype.val) W) (fun _ _ _ => False) (fun pre V V' row h hg hr => InvC.own (B := w3.heap.size) (by omega) (pre.map Subtype.val) V V' row h hg hr) (fun _ _ _ _ _ h _ _ => h)
    HI0.out
    (fun x => AxC w3.heap.size 98 (fun lv bx => #[.agg #[.int .i64 0, .int .i64 (fn : Nat), .int .i64 (rn : Nat), .int .i64 (un : Nat), .int .i64 xp, .int .i64 xn, .int .i64 yp, .int .i64 yn, .slice ia im ic, .int .i64 (an : Nat), .int .i64 (bn : Nat)], .pointer (some ⟨w.heap.size, 0, none⟩), .slice none 0 0, .pointer (some ⟨w2.heap.size, 0, none⟩), .bool true, .pointer (some ⟨W4.heap.size, 0, none⟩), bx, .agg #[.int .i64 0, .int .i64 (fn : Nat), .int .i64 (rn : Nat), .int .i64 (un : Nat), .int .i64 xp, .int .i64 xn, .int .i64 yp, .int .i64 yn, .slice ia im ic, .int .i64 (an : Nat), .int .i64 (bn : Nat)], .bool true, .bool false, .tuple #[.agg #[.string { data := #[111, 110, 101] }, .bool false, .bool false, .bool false, .bool true, .bool false, .bool false, .bool false], .bool true], .pointer (some ⟨w.heap.size, 0, none⟩), .int .i64 0, .tuple #[.agg #[.string { data := #[111, 110, 101] }, .bool false, .bool false, .bool false, .bool true, .bool false, .bool false, .bool false], .bool true], .agg #[.string { data := #[111, 110, 101] }, .bool false, .bool false, .bool false, .bool true, .bool false, .bool false, .bool false], .bool true, .pointer (some ⟨w2.heap.size, 0, none⟩), .string { data := #[111, 110, 101] }, .slice (some ⟨W3.heap.size, 0, none⟩) 3 cp, .pointer (some ⟨w2.heap.size, 1, none⟩), .bool false, undef, undef, undef, undef, .pointer (some ⟨w2.heap.size, 2, none⟩), .bool false, undef, undef, undef, undef, .pointer (some ⟨w2.heap.size, 3, none⟩), .bool false, undef, undef, undef, undef, .pointer (some ⟨w2.heap.size, 7, none⟩), .bool false, undef, undef, undef, undef, undef, undef, undef, undef, .agg #[.int .i64 0, .int .i64 (fn : Nat), .int .i64 (rn : Nat), .int .i64 (un : Nat), .int .i64 xp, .int .i64 xn, .int .i64 yp, .int .i64 yn, .slice ia im ic, .int .i64 (an : Nat), .int .i64 (bn : Nat)], .func (.func 83) #[] #[.pointer (some ⟨V2.heap.size, 0, none⟩)], lv, undef, undef, undef, undef]) x.1) (fun x => AxC.own x.1) ?assign ?body ?done ?stop
  case assign =>
    rintro l pre ⟨x, hx6, hx24⟩ W K hI hK
    unfold encL
    have hlt := hI.size
    gi_wp2_with fail
    have hB : Below W.heap.size W (W.alloc (.cells #[.int .i64 (x.place : Nat), .int .i64 (x.atom : Nat), .bool x.no] 98)) := (Below.refl _ _).alloc (Nat.le_refl _) _
    obtain ⟨⟨v, h1, h2⟩, h3, h4, h5⟩ := hI
    exact hK _ _ ((keepsOthers_below hB).from _) (Kp5.of_below hB h5) ⟨⟨v, h1.alloc _, own_allocT h2 _⟩, h3.alloc h5 _, Nat.le_trans h4 hB.size, Nat.le_trans h5 hB.size⟩
      ⟨W.heap.size, hlt, World.alloc_heap_new W _, rfl⟩
  case body => as_aux_lemma =>
    rintro l pre ⟨x, hx6, hx24⟩ a' W hl ⟨r', hr'⟩ hI ⟨Bx, hBx, hbox, rfl⟩ hlen
    have HMapA : Hid ((pre ++ [(⟨x, hx6, hx24⟩ : LX)]).map Subtype.val = pre.map Subtype.val ++ [x]) := by unfold Hid; rw [List.map_append]; rfl
    obtain ⟨pr, hpr⟩ : ∃ pr, pr = pre.map Subtype.val := ⟨_, rfl⟩
    have hI' : InvC w.heap.size W4.heap.size w3.heap.size X2 w pr W := by rw [hpr]; exact hI
    have HI : Hid (InvC w.heap.size W4.heap.size w3.heap.size X2 w pr W) := hI'
    rw [← hpr] at HMapA
    have hpl : pr.length ≤ 288 := by have := HN.out; rw [hpr, List.length_map]; omega
    obtain ⟨⟨v, hv, hO⟩, _, hsW, hbW⟩ := hI'
    obtain ⟨Y, hY⟩ : ∃ Y, Y = X2 ++ litsT pr := ⟨_, rfl⟩
    have HY : Hid (Y = X2 ++ litsT pr) := hY
    have HO : Hid (OwnB w.heap.size W v Y) := by rw [Hid, hY]; exact hO
    have hYl : Y.length ≤ 1000000 := by
      have h1 := litsT_len pr
      have h2 := HL2.out
      rw [hY, List.length_append]; omega
    have HV : Hid (Boxed W W4.heap.size 28 v) := hv
    have oc := Boxed.cell hv
    have l0 : W.cell? ⟨Bx, 0, none⟩ = some (.int .i64 (x.place : Nat)) := by simp [World.cell?, hbox]
    have l1 : W.cell? ⟨Bx, 1, none⟩ = some (.int .i64 (x.atom : Nat)) := by simp [World.cell?, hbox]
    have l2 : W.cell? ⟨Bx, 2, none⟩ = some (.bool x.no) := by simp [World.cell?, hbox]
    clear hI hO hpr hbox hr' hlen hY hv
    obtain ⟨pl, at', no⟩ := x
    simp only at hx6 hx24 l0 l1 l2
    cases no with
    | false =>
      gi_wp2_with fail
      refine ⟨trivial, (callsIn_wide.2 (addLiteral_pos pl at' hx6 hx24 HO.out hbW hYl)).mono ?_⟩
      rintro e W5 ⟨vv, rfl, h1, h2⟩
      obtain ⟨ga, gn, gc, rfl⟩ := OwnB.slice h1
      have HE : Hid (Y ++ [(32 : Int)] ++ digT at' ++ [markI pl] = X2 ++ litsT (pr ++ [⟨pl, at', false⟩])) := by rw [Hid, HY.out, litsT_append]; simp [litsT, litT, markI]
      rw [HE.out] at h1
      have hov : Boxed W5 W4.heap.size 28 v := h2.k5.2 _ _ _ _ (by decide) HV.out
      have HF : Hid (KeepsFrom w3.heap.size W (W5.setCell ⟨W4.heap.size, 0, none⟩ (.slice ga gn gc)) ∧ Kp5 w.heap.size w3.heap.size W (W5.setCell ⟨W4.heap.size, 0, none⟩ (.slice ga gn gc)) ∧ InvC w.heap.size W4.heap.size w3.heap.size X2 w (pr ++ [⟨pl, at', false⟩]) (W5.setCell ⟨W4.heap.size, 0, none⟩ (.slice ga gn gc))) := InvC.step HI.out (by omega) (by omega) HV.out h1 (by rw [← HY.out]; exact HO.out) h2
      have oc5 := Boxed.cell hov
      have fc5 := Boxed.frozen hov
      clear h1 h2 hov l0 l1 l2 oc
      gi_wp2_with fail
      rw [← HMapA.out] at HF
      exact HF.out
    | true =>
      gi_wp2_with fail
      refine ⟨trivial, (callsIn_wide.2 (addLiteral_neg pl at' hx6 hx24 HO.out hbW hYl)).mono ?_⟩
      rintro e W5 ⟨vv, rfl, h1, h2⟩
      obtain ⟨ga, gn, gc, rfl⟩ := OwnB.slice h1
      have HE : Hid (Y ++ dashW ++ digT at' ++ [markI pl] = X2 ++ litsT (pr ++ [⟨pl, at', true⟩])) := by rw [Hid, HY.out, litsT_append]; simp [litsT, litT, markI, dashW]
      rw [HE.out] at h1
      have hov : Boxed W5 W4.heap.size 28 v := h2.k5.2 _ _ _ _ (by decide) HV.out
      have HF : Hid (KeepsFrom w3.heap.size W (W5.setCell ⟨W4.heap.size, 0, none⟩ (.slice ga gn gc)) ∧ Kp5 w.heap.size w3.heap.size W (W5.setCell ⟨W4.heap.size, 0, none⟩ (.slice ga gn gc)) ∧ InvC w.heap.size W4.heap.size w3.heap.size X2 w (pr ++ [⟨pl, at', true⟩]) (W5.setCell ⟨W4.heap.size, 0, none⟩ (.slice ga gn gc))) := InvC.step HI.out (by omega) (by omega) HV.out h1 (by rw [← HY.out]; exact HO.out) h2
      have oc5 := Boxed.cell hov
      have fc5 := Boxed.frozen hov
      clear h1 h2 hov l0 l1 l2 oc
      gi_wp2_with fail
      rw [← HMapA.out] at HF
      exact HF.out
  case done =>
    rintro D ys' W hD hS hI hK
    obtain ⟨⟨v, hv, hO⟩, hbel, hsz, hbw⟩ := hI
    rw [show ys'.map Subtype.val = litsL 0 (natP (six xp xn yp yn xs)) from hS] at hO
    have HO : Hid (OwnB w.heap.size W v (X2 ++ litsT (litsL 0 (natP (six xp xn yp yn xs))))) := hO
    have HBel : Hid (Below w.heap.size w W) := hbel
    have HBw : Hid (w.heap.size ≤ W.heap.size) := hbw
    have HK4 : Hid (W.heap[D]? = some (.deferred (some []))) := hK
    have oc := Boxed.cell hv
    clear hO hbel hv hS hbw
    gi_wp2_with fail
    refine ⟨by simp, .inl ⟨_, _, rfl, run_takeDeferred HK4.out, ?_⟩⟩
    refine ⟨_, results_tmp rfl _ _ _, _, rfl, ?_, HBel.out.grown (grownBy_putObj' _ D _) HBw.out (fun k e => by cases e; omega)⟩
    rw [clT, ← HXE.out]
    refine OwnB.blk HO.out (fun b hb => World.putObj_heap_other (fun e => ?_))
    obtain ⟨c, f, hc⟩ := own_cells HO.out hb
    subst e
    rw [HK4.out] at hc
    cases hc
  case stop =>
    rintro D cd pre W hD hpre hI hK
    exact hI.elim
end

section
open Go.RowKit Go.Shelf
set_option linter.unusedVariables false

attribute [local go_sem] Oper.semAt_some
attribute [local go_sem ↓] about_wide

set_option maxRecDepth 100000 in
set_option maxHeartbeats 8000000 in
theorem implClauseText_4 {fn rn un an bn : Nat} {xp xn yp yn : Int} {ia : Option Addr} {im ic : Nat} {xs : List (Int × Int)} {w : World} {lo hi : Nat} (hR : RP lo hi w ia im ic xs) (hhi : hi ≤ w.heap.size) (hT : TabD w) (hg : 2 < w.heap.size) (hfn : fn < 100) (hrn : rn < 100) (hun : un < 100) (han : an < 100) (hbn : bn < 100) (hok : clauseB 4 (fn : Nat) (rn : Nat) (un : Nat) xp xn yp yn xs (an : Nat) (bn : Nat) = true) :
    Calls Tryz.prog 26 #[.agg #[.int .i64 4, .int .i64 (fn : Nat), .int .i64 (rn : Nat), .int .i64 (un : Nat), .int .i64 xp, .int .i64 xn, .int .i64 yp, .int .i64 yn, .slice ia im ic, .int .i64 (an : Nat), .int .i64 (bn : Nat)]] w fun e w' => ∃ v, e = .returned v ∧ OwnB w.heap.size w' v (clT 4 fn rn un (natP (six xp xn yp yn xs)) an bn) ∧ Below w.heap.size w w' := by
  obtain ⟨KC, hKC⟩ : ∃ KC : Array Value, KC = #[.int .i64 4, .int .i64 (fn : Nat), .int .i64 (rn : Nat), .int .i64 (un : Nat), .int .i64 xp, .int .i64 xn, .int .i64 yp, .int .i64 yn, .slice ia im ic, .int .i64 (an : Nat), .int .i64 (bn : Nat)] := ⟨_, rfl⟩
  have HKC : Hid (KC = #[.int .i64 4, .int .i64 (fn : Nat), .int .i64 (rn : Nat), .int .i64 (un : Nat), .int .i64 xp, .int .i64 xn, .int .i64 yp, .int .i64 yn, .slice ia im ic, .int .i64 (an : Nat), .int .i64 (bn : Nat)]) := hKC
  obtain ⟨SC, hSC⟩ : ∃ SC : Array Value, SC = #[.string { data := #[114, 111, 108, 101] }, .bool false, .bool true, .bool true, .bool false, .bool false, .bool false, .bool false] := ⟨_, rfl⟩
  have HSC : Hid (SC = #[.string { data := #[114, 111, 108, 101] }, .bool false, .bool true, .bool true, .bool false, .bool false, .bool false, .bool false]) := hSC
  have HSV : Hid (shapeV 4 = #[.string { data := #[114, 111, 108, 101] }, .bool false, .bool true, .bool true, .bool false, .bool false, .bool false, .bool false]) := by unfold Hid; simp [shapeV, wordK, hasF, hasR, hasU, hasX, hasY, hasI, hasP]
  obtain ⟨W, hW⟩ : ∃ W, W = w.alloc (.cells #[.int .i64 4, .int .i64 (fn : Nat), .int .i64 (rn : Nat), .int .i64 (un : Nat), .int .i64 xp, .int .i64 xn, .int .i64 yp, .int .i64 yn, .slice ia im ic, .int .i64 (an : Nat), .int .i64 (bn : Nat)] 53) := ⟨_, rfl⟩
  have HW : Hid (W = w.alloc (.cells #[.int .i64 4, .int .i64 (fn : Nat), .int .i64 (rn : Nat), .int .i64 (un : Nat), .int .i64 xp, .int .i64 xn, .int .i64 yp, .int .i64 yn, .slice ia im ic, .int .i64 (an : Nat), .int .i64 (bn : Nat)] 53)) := hW
  have hb0 : Below w.heap.size w W := by rw [hW]; exact (Below.refl _ _).alloc (Nat.le_refl _) _
  have HB0 : Hid (Below w.heap.size w W) := hb0
  have hkb : BoxK 53 W w.heap.size 4 (fn : Nat) (rn : Nat) (un : Nat) xp xn yp yn (.slice ia im ic) (an : Nat) (bn : Nat) := by rw [hW]; exact BoxK.new _ w _ _ _ _ _ _ _ _ _ _ _
  have HKB : Hid (BoxK 53 W w.heap.size 4 (fn : Nat) (rn : Nat) (un : Nat) xp xn yp yn (.slice ia im ic) (an : Nat) (bn : Nat)) := hkb
  have HR : Hid (RP lo hi w ia im ic xs) := hR
  have HRW : Hid (RP lo hi W ia im ic xs) := hR.below hb0 hhi
  have HIm : Hid (im = 0 ∨ im = 4) := by unfold Hid; rw [← hR.len]; exact clauseB_inds hok
  have HPt : Hid (∀ x ∈ six xp xn yp yn xs, partB x.1 x.2 = true) := clauseB_parts hok
  have HTb : Hid (TabD w) := hT
  obtain ⟨y0, y1, y2, y3, y4, y5, y6, y7, y8, y9, y10⟩ := hkb.cells
  clear hkb hR hb0 hT hW hKC hSC
  refine (callsIn_wide (n := 6)).1 ?_
  refine callsIn_of_wp_marks Tryz.func26 rfl trivial ?_ rfl
  simp only [Tryz.ntmps26, List.size_toArray, List.length_cons, List.length_nil, Nat.reduceAdd, Nat.reduceSub, Array.replicate_succ, Array.replicate_zero, List.push_toArray, List.append_toArray, List.nil_append, List.cons_append]
  gi_upto_region 1 with fail
  rw [← HW.out]
  gi_wp2_with fail
  refine (callsIn_wide.2 (implClauseOk_any HRW.out (Nat.le_trans hhi HB0.out.size))).mono ?_
  rintro e w1 ⟨rfl, hb1⟩
  rw [hok]
  have HB1 : Hid (Below w.heap.size w w1) := HB0.out.trans (hb1.mono HB0.out.size)
  have HKB1 : Hid (BoxK 53 w1 w.heap.size 4 (fn : Nat) (rn : Nat) (un : Nat) xp xn yp yn (.slice ia im ic) (an : Nat) (bn : Nat)) := HKB.out.below hb1 HKB.out.lt
  clear hb1 y0 y1 y2 y3 y4 y5 y6 y7 y8 y9 y10
  obtain ⟨y0, y1, y2, y3, y4, y5, y6, y7, y8, y9, y10⟩ := HKB1.out.cells
  gi_wp2_with fail
  refine (callsIn_wide.2 (shapeOf_4 w1)).mono ?_
  rintro e w2 ⟨rfl, hb2⟩
  rw [HSV.out]
  have HB2 : Hid (Below w.heap.size w w2) := HB1.out.trans (hb2.mono HB1.out.size)
  have hkb2 : BoxK 53 w2 w.heap.size 4 (fn : Nat) (rn : Nat) (un : Nat) xp xn yp yn (.slice ia im ic) (an : Nat) (bn : Nat) := HKB1.out.below hb2 HKB1.out.lt
  have hl2 : w.heap.size < w2.heap.size := hkb2.lt
  obtain ⟨W3, hW3⟩ : ∃ W3, W3 = w2.alloc (.cells #[.string { data := #[114, 111, 108, 101] }, .bool false, .bool true, .bool true, .bool false, .bool false, .bool false, .bool false] 91) := ⟨_, rfl⟩
  have HW3 : Hid (w2.alloc (.cells #[.string { data := #[114, 111, 108, 101] }, .bool false, .bool true, .bool true, .bool false, .bool false, .bool false, .bool false] 91) = W3) := hW3.symm
  have hb3 : Below w2.heap.size w2 W3 := by rw [hW3]; exact (Below.refl _ _).alloc (Nat.le_refl _) _
  have hsb3 : BoxS W3 w2.heap.size { data := #[114, 111, 108, 101] } false true true false false false false := by rw [hW3]; exact BoxS.new _ _ _ _ _ _ _ _ _
  have hl3 : w2.heap.size < W3.heap.size := by rw [hW3]; simp
  obtain ⟨W4, hW4⟩ : ∃ W4, W4 = Lib.bytesWorld W3 5 { data := #[114, 111, 108, 101] } := ⟨_, rfl⟩
  obtain ⟨cp, hcp⟩ : ∃ cp, cp = grownCap W3 ({ data := #[114, 111, 108, 101] } : ByteArray).size 0 5 := ⟨_, rfl⟩
  obtain ⟨v2, hv2⟩ : ∃ v, v = Value.slice (some ⟨W3.heap.size, 0, none⟩) 4 cp := ⟨_, rfl⟩
  have hcv : (convert 9 28 (.string { data := #[114, 111, 108, 101] })).run Tryz.prog W3 = .ok (.slice (some ⟨W3.heap.size, 0, none⟩) 4 cp) W4 := by
    rw [Lib.run_convert_string_bytes W3 9 28 5 { data := #[114, 111, 108, 101] } Tryz.underlying9 Tryz.underlying28 Tryz.underlying5, ← hW4, ← hcp]
    rfl
  have hb4 : Below W3.heap.size W3 W4 := by rw [hW4]; exact conv_below W3 5 _
  have hl4 : W3.heap.size < W4.heap.size := by rw [hW4, Lib.bytesWorld_size]; omega
  obtain ⟨X2, hX2⟩ : ∃ X, X = wdK 4 := ⟨_, rfl⟩
  have HX2 : Hid (X2 = wdK 4) := hX2
  have HL2 : Hid (X2.length ≤ 8) := by rw [Hid, hX2]; decide
  have hq : OwnB w.heap.size W4 v2 X2 := by
    rw [hv2, hW4, hcp, hX2]
    exact ownsZ_conv W3 w.heap.size 5 { data := #[114, 111, 108, 101] } (by omega) (by unfold maxLen; decide)
  obtain ⟨V2, hV2⟩ : ∃ V, V = W4.alloc (.cells #[v2] 28) := ⟨_, rfl⟩
  have hb5 : Below W4.heap.size W4 V2 := by rw [hV2]; exact (Below.refl _ _).alloc (Nat.le_refl _) _
  have hkbV := ((hkb2.below hb3 hl2).below hb4 (by omega)).below hb5 (by omega)
  have hsbV := (hsb3.below hb4 hl3).below hb5 (by omega)
  have HC2 : Hid (CtI w.heap.size w.heap.size w2.heap.size W4.heap.size KC SC w V2 v2 X2) := by
    refine ⟨?_, ?_, ?_, ?_, ?_, ?_⟩
    · rw [HKC.out]; exact hkbV
    · rw [HSC.out]; exact hsbV
    · rw [hV2]; exact Boxed.new W4 28 v2
    · rw [hV2]
      exact own_allocT hq _
    · exact ((HB2.out.trans (hb3.mono (by omega))).trans (hb4.mono (by omega))).trans (hb5.mono (by omega))
    · omega
  have HV5 : Hid (W4.alloc (.cells #[.slice (some ⟨W3.heap.size, 0, none⟩) 4 cp] 28) = V2) := by rw [Hid, ← hv2]; exact hV2.symm
  have hne1 : w.heap.size ≠ W4.heap.size := by omega
  have hne2 : w2.heap.size ≠ W4.heap.size := by omega
  gi_upto_region 4 with fail
  rw [HW3.out]
  clear y0 y1 y2 y3 y4 y5 y6 y7 y8 y9 y10
  obtain ⟨s0, s1, s2, s3, s4, s5, s6, s7⟩ := hsb3.cells
  clear hb2 hkb2 hW3 hb3 hsb3 hW4 hcp hv2 hb4 hX2 hV2 hb5 hq
  gi_upto_region 5 with fail
  rw [HV5.out]
  clear hcv s0 s1 s2 s3 s4 s5 s6 s7
  obtain ⟨y0, y1, y2, y3, y4, y5, y6, y7, y8, y9, y10⟩ := hkbV.cells
  obtain ⟨s0, s1, s2, s3, s4, s5, s6, s7⟩ := hsbV.cells
  have oc := Boxed.cell HC2.out.obx
  clear hkbV hsbV
  gi_wp2_with fail
  refine (callsIn_wide.2 (addNumber6 rS rW rS_cells hrn HC2.out.own (Nat.le_trans HC2.out.bas (Nat.le_of_lt (Boxed.lt HC2.out.obx))) (by have := HL2.out; have := rW_len; omega))).mono ?_
  rintro e wn3 ⟨vv, rfl, h1, h2⟩
  obtain ⟨ga3, gn3, gc3, rfl⟩ := OwnB.slice h1
  obtain ⟨X3, hX⟩ : ∃ X, X = X2 ++ rW ++ digT rn := ⟨_, rfl⟩
  rw [← hX] at h1
  have HX3 : Hid (X3 = X2 ++ rW ++ digT rn) := hX
  have HL3 : Hid (X3.length ≤ 24) := by have := HL2.out; have := rW_len; have := digT_len rn; rw [Hid, hX, List.length_append, List.length_append]; omega
  obtain ⟨V3, hV⟩ : ∃ V, V = wn3.setCell ⟨W4.heap.size, 0, none⟩ (.slice ga3 gn3 gc3) := ⟨_, rfl⟩
  have HV3 : Hid (wn3.setCell ⟨W4.heap.size, 0, none⟩ (.slice ga3 gn3 gc3) = V3) := hV.symm
  have HC3 : Hid (CtI w.heap.size w.heap.size w2.heap.size W4.heap.size KC SC w V3 (.slice ga3 gn3 gc3) X3) := by rw [Hid, hV]; exact HC2.out.num h1 h2 hne1 hne2
  have ob3 := Boxed.cell (show Boxed wn3 W4.heap.size 28 v2 from h2.k5.2 _ _ _ _ (by decide) HC2.out.obx)
  have fb3 := Boxed.frozen (show Boxed wn3 W4.heap.size 28 v2 from h2.k5.2 _ _ _ _ (by decide) HC2.out.obx)
  have hV3 := HV3.out
  clear y0 y1 y2 y3 y4 y5 y6 y7 y8 y9 y10 s0 s1 s2 s3 s4 s5 s6 s7 oc h1 h2 hX hV
  have hkb : BoxK 53 V3 w.heap.size 4 (fn : Nat) (rn : Nat) (un : Nat) xp xn yp yn (.slice ia im ic) (an : Nat) (bn : Nat) := by rw [BoxK, ← HKC.out]; exact HC3.out.kbx
  obtain ⟨y0, y1, y2, y3, y4, y5, y6, y7, y8, y9, y10⟩ := hkb.cells
  have hsb : BoxS V3 w2.heap.size { data := #[114, 111, 108, 101] } false true true false false false false := by rw [BoxS, ← HSC.out]; exact HC3.out.sbx
  obtain ⟨s0, s1, s2, s3, s4, s5, s6, s7⟩ := hsb.cells
  have oc := Boxed.cell HC3.out.obx
  clear hkb hsb
  gi_wp2_with fail
  refine (callsIn_wide.2 (addNumber6 rS rW rS_cells hun HC3.out.own (Nat.le_trans HC3.out.bas (Nat.le_of_lt (Boxed.lt HC3.out.obx))) (by have := HL3.out; have := rW_len; omega))).mono ?_
  rintro e wn4 ⟨vv, rfl, h1, h2⟩
  obtain ⟨ga4, gn4, gc4, rfl⟩ := OwnB.slice h1
  obtain ⟨X4, hX⟩ : ∃ X, X = X3 ++ rW ++ digT un := ⟨_, rfl⟩
  rw [← hX] at h1
  have HX4 : Hid (X4 = X3 ++ rW ++ digT un) := hX
  have HL4 : Hid (X4.length ≤ 32) := by have := HL3.out; have := rW_len; have := digT_len un; rw [Hid, hX, List.length_append, List.length_append]; omega
  obtain ⟨V4, hV⟩ : ∃ V, V = wn4.setCell ⟨W4.heap.size, 0, none⟩ (.slice ga4 gn4 gc4) := ⟨_, rfl⟩
  have HV4 : Hid (wn4.setCell ⟨W4.heap.size, 0, none⟩ (.slice ga4 gn4 gc4) = V4) := hV.symm
  have HC4 : Hid (CtI w.heap.size w.heap.size w2.heap.size W4.heap.size KC SC w V4 (.slice ga4 gn4 gc4) X4) := by rw [Hid, hV]; exact HC3.out.num h1 h2 hne1 hne2
  have ob4 := Boxed.cell (show Boxed wn4 W4.heap.size 28 (.slice ga3 gn3 gc3) from h2.k5.2 _ _ _ _ (by decide) HC3.out.obx)
  have fb4 := Boxed.frozen (show Boxed wn4 W4.heap.size 28 (.slice ga3 gn3 gc3) from h2.k5.2 _ _ _ _ (by decide) HC3.out.obx)
  have hV4 := HV4.out
  clear y0 y1 y2 y3 y4 y5 y6 y7 y8 y9 y10 s0 s1 s2 s3 s4 s5 s6 s7 oc h1 h2 hX hV
  have hkb : BoxK 53 V4 w.heap.size 4 (fn : Nat) (rn : Nat) (un : Nat) xp xn yp yn (.slice ia im ic) (an : Nat) (bn : Nat) := by rw [BoxK, ← HKC.out]; exact HC4.out.kbx
  obtain ⟨y0, y1, y2, y3, y4, y5, y6, y7, y8, y9, y10⟩ := hkb.cells
  have hsb : BoxS V4 w2.heap.size { data := #[114, 111, 108, 101] } false true true false false false false := by rw [BoxS, ← HSC.out]; exact HC4.out.sbx
  obtain ⟨s0, s1, s2, s3, s4, s5, s6, s7⟩ := hsb.cells
  have oc := Boxed.cell HC4.out.obx
  clear hkb hsb
  have HXE : Hid (X4 = wdK 4 ++ numsK 4 fn rn un an bn) := by rw [Hid, HX4.out, HX3.out, HX2.out]; simp [numsK, hasF, hasR, hasU, hasP]
  gi_wp2_with fail
  refine (literals_inC _ V4).mono ?_
  rintro e w3 ⟨rfl, hw3⟩
  have hb3 : Below V4.heap.size V4 w3 := by rw [hw3]; exact (Below.refl _ _).alloc (Nat.le_refl _) _
  have HB3 : Hid (Below w.heap.size w w3) := HC4.out.bel.trans (hb3.mono (Nat.le_trans HC4.out.bas (Nat.le_of_lt (Boxed.lt HC4.out.obx))))
  have hs3 : V4.heap.size + 1 ≤ w3.heap.size := by rw [hw3]; simp
  have HBt : Hid (BoxK 53 w3 V4.heap.size 4 (fn : Nat) (rn : Nat) (un : Nat) xp xn yp yn (.slice ia im ic) (an : Nat) (bn : Nat)) := by unfold Hid; rw [hw3]; exact BoxK.new _ V4 _ _ _ _ _ _ _ _ _ _ _
  have hobl := Boxed.lt HC4.out.obx
  have hbas := HC4.out.bas
  have HI0 : Hid (InvC w.heap.size W4.heap.size w3.heap.size X4 w [] w3) := ⟨⟨(.slice ga4 gn4 gc4), boxed_below HC4.out.obx hb3 hobl, by simpa [litsT] using OwnB.below HC4.out.own hb3 (Nat.le_refl _)⟩, HB3.out, Nat.le_refl _, by omega⟩
  have HN : Hid ((litsL 0 (natP (six xp xn yp yn xs))).length ≤ 288) := by
    have := litsL_length (natP (six xp xn yp yn xs)) 0
    have e : (natP (six xp xn yp yn xs)).length = 6 := by simp [natP, six]
    rw [Hid]; omega
  have hn1 : w.heap.size ≤ w3.heap.size := HB3.out.size
  clear hb3 hw3 y0 y1 y2 y3 y4 y5 y6 y7 y8 y9 y10 s0 s1 s2 s3 s4 s5 s6 s7 oc
  gi_wp2_with fail
  refine wpIn_rangeFunc_ownH rfl (by omega) (gf := 83) (lb := #[.pointer (some ⟨V4.heap.size, 0, none⟩)]) rfl trivial (enters_of Tryz.func83 (by kernel_rfl) rfl)
    (lits_stops5 (lo := lo) (hi := hi) (B := w.heap.size) (n1 := w3.heap.size) 5 V4.heap.size hhi (by omega) hg HR.out HIm.out HPt.out HTb.out HB3.out (Nat.le_refl _) HBt.out) Kp5.trans
    (fun W l o o' hl hW hc _ => Kp5.putObj W l o o' (by omega) hW hc) (Below.refl _ _) (fun _ => rfl)
    (fun pre W => InvC w.heap.size W4.heap.size w3.heap.size X4 w (pre.map Subtype.val) W) (fun _ _ _ => False) (fun pre V V' row h hg hr => InvC.own (B := w3.heap.size) (by omega) (pre.map Subtype.val) V V' row h hg hr) (fun _ _ _ _ _ h _ _ => h)
    HI0.out
    (fun x => AxC w3.heap.size 98 (fun lv bx => #[.agg #[.int .i64 4, .int .i64 (fn : Nat), .int .i64 (rn : Nat), .int .i64 (un : Nat), .int .i64 xp, .int .i64 xn, .int .i64 yp, .int .i64 yn, .slice ia im ic, .int .i64 (an : Nat), .int .i64 (bn : Nat)], .pointer (some ⟨w.heap.size, 0, none⟩), .slice none 0 0, .pointer (some ⟨w2.heap.size, 0, none⟩), .bool true, .pointer (some ⟨W4.heap.size, 0, none⟩), bx, .agg #[.int .i64 4, .int .i64 (fn : Nat), .int .i64 (rn : Nat), .int .i64 (un : Nat), .int .i64 xp, .int .i64 xn, .int .i64 yp, .int .i64 yn, .slice ia im ic, .int .i64 (an : Nat), .int .i64 (bn : Nat)], .bool true, .bool false, .tuple #[.agg #[.string { data := #[114, 111, 108, 101] }, .bool false, .bool true, .bool true, .bool false, .bool false, .bool false, .bool false], .bool true], .pointer (some ⟨w.heap.size, 0, none⟩), .int .i64 4, .tuple #[.agg #[.string { data := #[114, 111, 108, 101] }, .bool false, .bool true, .bool true, .bool false, .bool false, .bool false, .bool false], .bool true], .agg #[.string { data := #[114, 111, 108, 101] }, .bool false, .bool true, .bool true, .bool false, .bool false, .bool false, .bool false], .bool true, .pointer (some ⟨w2.heap.size, 0, none⟩), .string { data := #[114, 111, 108, 101] }, .slice (some ⟨W3.heap.size, 0, none⟩) 4 cp, .pointer (some ⟨w2.heap.size, 1, none⟩), .bool false, undef, undef, undef, undef, .pointer (some ⟨w2.heap.size, 2, none⟩), .bool true, v2, .pointer (some ⟨w.heap.size, 2, none⟩), .int .i64 (rn : Nat), .slice ga3 gn3 gc3, .pointer (some ⟨w2.heap.size, 3, none⟩), .bool true, .slice ga3 gn3 gc3, .pointer (some ⟨w.heap.size, 3, none⟩), .int .i64 (un : Nat), .slice ga4 gn4 gc4, .pointer (some ⟨w2.heap.size, 7, none⟩), .bool false, undef, undef, undef, undef, undef, undef, undef, undef, .agg #[.int .i64 4, .int .i64 (fn : Nat), .int .i64 (rn : Nat), .int .i64 (un : Nat), .int .i64 xp, .int .i64 xn, .int .i64 yp, .int .i64 yn, .slice ia im ic, .int .i64 (an : Nat), .int .i64 (bn : Nat)], .func (.func 83) #[] #[.pointer (some ⟨V4.heap.size, 0, none⟩)], lv, undef, undef, undef, undef]) x.1) (fun x => AxC.own x.1) ?assign ?body ?done ?stop
  case assign =>
    rintro l pre ⟨x, hx6, hx24⟩ W K hI hK
    unfold encL
    have hlt := hI.size
    gi_wp2_with fail
    have hB : Below W.heap.size W (W.alloc (.cells #[.int .i64 (x.place : Nat), .int .i64 (x.atom : Nat), .bool x.no] 98)) := (Below.refl _ _).alloc (Nat.le_refl _) _
    obtain ⟨⟨v, h1, h2⟩, h3, h4, h5⟩ := hI
    exact hK _ _ ((keepsOthers_below hB).from _) (Kp5.of_below hB h5) ⟨⟨v, h1.alloc _, own_allocT h2 _⟩, h3.alloc h5 _, Nat.le_trans h4 hB.size, Nat.le_trans h5 hB.size⟩
      ⟨W.heap.size, hlt, World.alloc_heap_new W _, rfl⟩
  case body => as_aux_lemma =>
    rintro l pre ⟨x, hx6, hx24⟩ a' W hl ⟨r', hr'⟩ hI ⟨Bx, hBx, hbox, rfl⟩ hlen
    have HMapA : Hid ((pre ++ [(⟨x, hx6, hx24⟩ : LX)]).map Subtype.val = pre.map Subtype.val ++ [x]) := by unfold Hid; rw [List.map_append]; rfl
    obtain ⟨pr, hpr⟩ : ∃ pr, pr = pre.map Subtype.val := ⟨_, rfl⟩
    have hI' : InvC w.heap.size W4.heap.size w3.heap.size X4 w pr W := by rw [hpr]; exact hI
    have HI : Hid (InvC w.heap.size W4.heap.size w3.heap.size X4 w pr W) := hI'
    rw [← hpr] at HMapA
    have hpl : pr.length ≤ 288 := by have := HN.out; rw [hpr, List.length_map]; omega
    obtain ⟨⟨v, hv, hO⟩, _, hsW, hbW⟩ := hI'
    obtain ⟨Y, hY⟩ : ∃ Y, Y = X4 ++ litsT pr := ⟨_, rfl⟩
    have HY : Hid (Y = X4 ++ litsT pr) := hY
    have HO : Hid (OwnB w.heap.size W v Y) := by rw [Hid, hY]; exact hO
    have hYl : Y.length ≤ 1000000 := by
      have h1 := litsT_len pr
      have h2 := HL4.out
      rw [hY, List.length_append]; omega
    have HV : Hid (Boxed W W4.heap.size 28 v) := hv
    have oc := Boxed.cell hv
    have l0 : W.cell? ⟨Bx, 0, none⟩ = some (.int .i64 (x.place : Nat)) := by simp [World.cell?, hbox]
    have l1 : W.cell? ⟨Bx, 1, none⟩ = some (.int .i64 (x.atom : Nat)) := by simp [World.cell?, hbox]
    have l2 : W.cell? ⟨Bx, 2, none⟩ = some (.bool x.no) := by simp [World.cell?, hbox]
    clear hI hO hpr hbox hr' hlen hY hv
    obtain ⟨pl, at', no⟩ := x
    simp only at hx6 hx24 l0 l1 l2
    cases no with
    | false =>
      gi_wp2_with fail
      refine ⟨trivial, (callsIn_wide.2 (addLiteral_pos pl at' hx6 hx24 HO.out hbW hYl)).mono ?_⟩
      rintro e W5 ⟨vv, rfl, h1, h2⟩
      obtain ⟨ga, gn, gc, rfl⟩ := OwnB.slice h1
      have HE : Hid (Y ++ [(32 : Int)] ++ digT at' ++ [markI pl] = X4 ++ litsT (pr ++ [⟨pl, at', false⟩])) := by rw [Hid, HY.out, litsT_append]; simp [litsT, litT, markI]
      rw [HE.out] at h1
      have hov : Boxed W5 W4.heap.size 28 v := h2.k5.2 _ _ _ _ (by decide) HV.out
      have HF : Hid (KeepsFrom w3.heap.size W (W5.setCell ⟨W4.heap.size, 0, none⟩ (.slice ga gn gc)) ∧ Kp5 w.heap.size w3.heap.size W (W5.setCell ⟨W4.heap.size, 0, none⟩ (.slice ga gn gc)) ∧ InvC w.heap.size W4.heap.size w3.heap.size X4 w (pr ++ [⟨pl, at', false⟩]) (W5.setCell ⟨W4.heap.size, 0, none⟩ (.slice ga gn gc))) := InvC.step HI.out (by omega) (by omega) HV.out h1 (by rw [← HY.out]; exact HO.out) h2
      have oc5 := Boxed.cell hov
      have fc5 := Boxed.frozen hov
      clear h1 h2 hov l0 l1 l2 oc
      gi_wp2_with fail
      rw [← HMapA.out] at HF
      exact HF.out
    | true =>
      gi_wp2_with fail
      refine ⟨trivial, (callsIn_wide.2 (addLiteral_neg pl at' hx6 hx24 HO.out hbW hYl)).mono ?_⟩
      rintro e W5 ⟨vv, rfl, h1, h2⟩
      obtain ⟨ga, gn, gc, rfl⟩ := OwnB.slice h1
      have HE : Hid (Y ++ dashW ++ digT at' ++ [markI pl] = X4 ++ litsT (pr ++ [⟨pl, at', true⟩])) := by rw [Hid, HY.out, litsT_append]; simp [litsT, litT, markI, dashW]
      rw [HE.out] at h1
      have hov : Boxed W5 W4.heap.size 28 v := h2.k5.2 _ _ _ _ (by decide) HV.out
      have HF : Hid (KeepsFrom w3.heap.size W (W5.setCell ⟨W4.heap.size, 0, none⟩ (.slice ga gn gc)) ∧ Kp5 w.heap.size w3.heap.size W (W5.setCell ⟨W4.heap.size, 0, none⟩ (.slice ga gn gc)) ∧ InvC w.heap.size W4.heap.size w3.heap.size X4 w (pr ++ [⟨pl, at', true⟩]) (W5.setCell ⟨W4.heap.size, 0, none⟩ (.slice ga gn gc))) := InvC.step HI.out (by omega) (by omega) HV.out h1 (by rw [← HY.out]; exact HO.out) h2
      have oc5 := Boxed.cell hov
      have fc5 := Boxed.frozen hov
      clear h1 h2 hov l0 l1 l2 oc
      gi_wp2_with fail
      rw [← HMapA.out] at HF
      exact HF.out
  case done =>
    rintro D ys' W hD hS hI hK
    obtain ⟨⟨v, hv, hO⟩, hbel, hsz, hbw⟩ := hI
    rw [show ys'.map Subtype.val = litsL 0 (natP (six xp xn yp yn xs)) from hS] at hO
    have HO : Hid (OwnB w.heap.size W v (X4 ++ litsT (litsL 0 (natP (six xp xn yp yn xs))))) := hO
    have HBel : Hid (Below w.heap.size w W) := hbel
    have HBw : Hid (w.heap.size ≤ W.heap.size) := hbw
    have HK4 : Hid (W.heap[D]? = some (.deferred (some []))) := hK
    have oc := Boxed.cell hv
    clear hO hbel hv hS hbw
    gi_wp2_with fail
    refine ⟨by simp, .inl ⟨_, _, rfl, run_takeDeferred HK4.out, ?_⟩⟩
    refine ⟨_, results_tmp rfl _ _ _, _, rfl, ?_, HBel.out.grown (grownBy_putObj' _ D _) HBw.out (fun k e => by cases e; omega)⟩
    rw [clT, ← HXE.out]
    refine OwnB.blk HO.out (fun b hb => World.putObj_heap_other (fun e => ?_))
    obtain ⟨c, f, hc⟩ := own_cells HO.out hb
    subst e
    rw [HK4.out] at hc
    cases hc
  case stop =>
    rintro D cd pre W hD hpre hI hK
    exact hI.elim
end

section
open Go.RowKit Go.Shelf
set_option linter.unusedVariables false

attribute [local go_sem] Oper.semAt_some
attribute [local go_sem ↓] about_wide

set_option maxRecDepth 100000 in
set_option maxHeartbeats 8000000 in
theorem implClauseText_3 {fn rn un an bn : Nat} {xp xn yp yn : Int} {ia : Option Addr} {im ic : Nat} {xs : List (Int × Int)} {w : World} {lo hi : Nat} (hR : RP lo hi w ia im ic xs) (hhi : hi ≤ w.heap.size) (hT : TabD w) (hg : 2 < w.heap.size) (hfn : fn < 100) (hrn : rn < 100) (hun : un < 100) (han : an < 100) (hbn : bn < 100) (hok : clauseB 3 (fn : Nat) (rn : Nat) (un : Nat) xp xn yp yn xs (an : Nat) (bn : Nat) = true) :
    Calls Tryz.prog 26 #[.agg #[.int .i64 3, .int .i64 (fn : Nat), .int .i64 (rn : Nat), .int .i64 (un : Nat), .int .i64 xp, .int .i64 xn, .int .i64 yp, .int .i64 yn, .slice ia im ic, .int .i64 (an : Nat), .int .i64 (bn : Nat)]] w fun e w' => ∃ v, e = .returned v ∧ OwnB w.heap.size w' v (clT 3 fn rn un (natP (six xp xn yp yn xs)) an bn) ∧ Below w.heap.size w w' := by
  obtain ⟨KC, hKC⟩ : ∃ KC : Array Value, KC = #[.int .i64 3, .int .i64 (fn : Nat), .int .i64 (rn : Nat), .int .i64 (un : Nat), .int .i64 xp, .int .i64 xn, .int .i64 yp, .int .i64 yn, .slice ia im ic, .int .i64 (an : Nat), .int .i64 (bn : Nat)] := ⟨_, rfl⟩
  have HKC : Hid (KC = #[.int .i64 3, .int .i64 (fn : Nat), .int .i64 (rn : Nat), .int .i64 (un : Nat), .int .i64 xp, .int .i64 xn, .int .i64 yp, .int .i64 yn, .slice ia im ic, .int .i64 (an : Nat), .int .i64 (bn : Nat)]) := hKC
  obtain ⟨SC, hSC⟩ : ∃ SC : Array Value, SC = #[.string { data := #[97, 108, 108] }, .bool false, .bool true, .bool false, .bool true, .bool true, .bool false, .bool false] := ⟨_, rfl⟩
  have HSC : Hid (SC = #[.string { data := #[97, 108, 108] }, .bool false, .bool true, .bool false, .bool true, .bool true, .bool false, .bool false]) := hSC
  have HSV : Hid (shapeV 3 = #[.string { data := #[97, 108, 108] }, .bool false, .bool true, .bool false, .bool true, .bool true, .bool false, .bool false]) := by unfold Hid; simp [shapeV, wordK, hasF, hasR, hasU, hasX, hasY, hasI, hasP]
  obtain ⟨W, hW⟩ : ∃ W, W = w.alloc (.cells #[.int .i64 3, .int .i64 (fn : Nat), .int .i64 (rn : Nat), .int .i64 (un : Nat), .int .i64 xp, .int .i64 xn, .int .i64 yp, .int .i64 yn, .slice ia im ic, .int .i64 (an : Nat), .int .i64 (bn : Nat)] 53) := ⟨_, rfl⟩
  have HW : Hid (W = w.alloc (.cells #[.int .i64 3, .int .i64 (fn : Nat), .int .i64 (rn : Nat), .int .i64 (un : Nat), .int .i64 xp, .int .i64 xn, .int .i64 yp, .int .i64 yn, .slice ia im ic, .int .i64 (an : Nat), .int .i64 (bn : Nat)] 53)) := hW
  have hb0 : Below w.heap.size w W := by rw [hW]; exact (Below.refl _ _).alloc (Nat.le_refl _) _
  have HB0 : Hid (Below w.heap.size w W) := hb0
  have hkb : BoxK 53 W w.heap.size 3 (fn : Nat) (rn : Nat) (un : Nat) xp xn yp yn (.slice ia im ic) (an : Nat) (bn : Nat) := by rw [hW]; exact BoxK.new _ w _ _ _ _ _ _ _ _ _ _ _
  have HKB : Hid (BoxK 53 W w.heap.size 3 (fn : Nat) (rn : Nat) (un : Nat) xp xn yp yn (.slice ia im ic) (an : Nat) (bn : Nat)) := hkb
  have HR : Hid (RP lo hi w ia im ic xs) := hR
  have HRW : Hid (RP lo hi W ia im ic xs) := hR.below hb0 hhi
  have HIm : Hid (im = 0 ∨ im = 4) := by unfold Hid; rw [← hR.len]; exact clauseB_inds hok
  have HPt : Hid (∀ x ∈ six xp xn yp yn xs, partB x.1 x.2 = true) := clauseB_parts hok
  have HTb : Hid (TabD w) := hT
  obtain ⟨y0, y1, y2, y3, y4, y5, y6, y7, y8, y9, y10⟩ := hkb.cells
  clear hkb hR hb0 hT hW hKC hSC
  refine (callsIn_wide (n := 6)).1 ?_
  refine callsIn_of_wp_marks Tryz.func26 rfl trivial ?_ rfl
  simp only [Tryz.ntmps26, List.size_toArray, List.length_cons, List.length_nil, Nat.reduceAdd, Nat.reduceSub, Array.replicate_succ, Array.replicate_zero, List.push_toArray, List.append_toArray, List.nil_append, List.cons_append]
  gi_upto_region 1 with fail
  rw [← HW.out]
  gi_wp2_with fail
  refine (callsIn_wide.2 (implClauseOk_any HRW.out (Nat.le_trans hhi HB0.out.size))).mono ?_
  rintro e w1 ⟨rfl, hb1⟩
  rw [hok]
  have HB1 : Hid (Below w.heap.size w w1) := HB0.out.trans (hb1.mono HB0.out.size)
  have HKB1 : Hid (BoxK 53 w1 w.heap.size 3 (fn : Nat) (rn : Nat) (un : Nat) xp xn yp yn (.slice ia im ic) (an : Nat) (bn : Nat)) := HKB.out.below hb1 HKB.out.lt
  clear hb1 y0 y1 y2 y3 y4 y5 y6 y7 y8 y9 y10
  obtain ⟨y0, y1, y2, y3, y4, y5, y6, y7, y8, y9, y10⟩ := HKB1.out.cells
  gi_wp2_with fail
  refine (callsIn_wide.2 (shapeOf_3 w1)).mono ?_
  rintro e w2 ⟨rfl, hb2⟩
  rw [HSV.out]
  have HB2 : Hid (Below w.heap.size w w2) := HB1.out.trans (hb2.mono HB1.out.size)
  have hkb2 : BoxK 53 w2 w.heap.size 3 (fn : Nat) (rn : Nat) (un : Nat) xp xn yp yn (.slice ia im ic) (an : Nat) (bn : Nat) := HKB1.out.below hb2 HKB1.out.lt
  have hl2 : w.heap.size < w2.heap.size := hkb2.lt
  obtain ⟨W3, hW3⟩ : ∃ W3, W3 = w2.alloc (.cells #[.string { data := #[97, 108, 108] }, .bool false, .bool true, .bool false, .bool true, .bool true, .bool false, .bool false] 91) := ⟨_, rfl⟩
  have HW3 : Hid (w2.alloc (.cells #[.string { data := #[97, 108, 108] }, .bool false, .bool true, .bool false, .bool true, .bool true, .bool false, .bool false] 91) = W3) := hW3.symm
  have hb3 : Below w2.heap.size w2 W3 := by rw [hW3]; exact (Below.refl _ _).alloc (Nat.le_refl _) _
  have hsb3 : BoxS W3 w2.heap.size { data := #[97, 108, 108] } false true false true true false false := by rw [hW3]; exact BoxS.new _ _ _ _ _ _ _ _ _
  have hl3 : w2.heap.size < W3.heap.size := by rw [hW3]; simp
  obtain ⟨W4, hW4⟩ : ∃ W4, W4 = Lib.bytesWorld W3 5 { data := #[97, 108, 108] } := ⟨_, rfl⟩
  obtain ⟨cp, hcp⟩ : ∃ cp, cp = grownCap W3 ({ data := #[97, 108, 108] } : ByteArray).size 0 5 := ⟨_, rfl⟩
  obtain ⟨v2, hv2⟩ : ∃ v, v = Value.slice (some ⟨W3.heap.size, 0, none⟩) 3 cp := ⟨_, rfl⟩
  have hcv : (convert 9 28 (.string { data := #[97, 108, 108] })).run Tryz.prog W3 = .ok (.slice (some ⟨W3.heap.size, 0, none⟩) 3 cp) W4 := by
    rw [Lib.run_convert_string_bytes W3 9 28 5 { data := #[97, 108, 108] } Tryz.underlying9 Tryz.underlying28 Tryz.underlying5, ← hW4, ← hcp]
    rfl
  have hb4 : Below W3.heap.size W3 W4 := by rw [hW4]; exact conv_below W3 5 _
  have hl4 : W3.heap.size < W4.heap.size := by rw [hW4, Lib.bytesWorld_size]; omega
  obtain ⟨X2, hX2⟩ : ∃ X, X = wdK 3 := ⟨_, rfl⟩
  have HX2 : Hid (X2 = wdK 3) := hX2
  have HL2 : Hid (X2.length ≤ 8) := by rw [Hid, hX2]; decide
  have hq : OwnB w.heap.size W4 v2 X2 := by
    rw [hv2, hW4, hcp, hX2]
    exact ownsZ_conv W3 w.heap.size 5 { data := #[97, 108, 108] } (by omega) (by unfold maxLen; decide)
  obtain ⟨V2, hV2⟩ : ∃ V, V = W4.alloc (.cells #[v2] 28) := ⟨_, rfl⟩
  have hb5 : Below W4.heap.size W4 V2 := by rw [hV2]; exact (Below.refl _ _).alloc (Nat.le_refl _) _
  have hkbV := ((hkb2.below hb3 hl2).below hb4 (by omega)).below hb5 (by omega)
  have hsbV := (hsb3.below hb4 hl3).below hb5 (by omega)
  have HC2 : Hid (CtI w.heap.size w.heap.size w2.heap.size W4.heap.size KC SC w V2 v2 X2) := by
    refine ⟨?_, ?_, ?_, ?_, ?_, ?_⟩
    · rw [HKC.out]; exact hkbV
    · rw [HSC.out]; exact hsbV
    · rw [hV2]; exact Boxed.new W4 28 v2
    · rw [hV2]
      exact own_allocT hq _
    · exact ((HB2.out.trans (hb3.mono (by omega))).trans (hb4.mono (by omega))).trans (hb5.mono (by omega))
    · omega
  have HV5 : Hid (W4.alloc (.cells #[.slice (some ⟨W3.heap.size, 0, none⟩) 3 cp] 28) = V2) := by rw [Hid, ← hv2]; exact hV2.symm
  have hne1 : w.heap.size ≠ W4.heap.size := by omega
  have hne2 : w2.heap.size ≠ W4.heap.size := by omega
  gi_upto_region 4 with fail
  rw [HW3.out]
  clear y0 y1 y2 y3 y4 y5 y6 y7 y8 y9 y10
  obtain ⟨s0, s1, s2, s3, s4, s5, s6, s7⟩ := hsb3.cells
  clear hb2 hkb2 hW3 hb3 hsb3 hW4 hcp hv2 hb4 hX2 hV2 hb5 hq
  gi_upto_region 5 with fail
  rw [HV5.out]
  clear hcv s0 s1 s2 s3 s4 s5 s6 s7
  obtain ⟨y0, y1, y2, y3, y4, y5, y6, y7, y8, y9, y10⟩ := hkbV.cells
  obtain ⟨s0, s1, s2, s3, s4, s5, s6, s7⟩ := hsbV.cells
  have oc := Boxed.cell HC2.out.obx
  clear hkbV hsbV
  gi_wp2_with fail
  refine (callsIn_wide.2 (addNumber6 rS rW rS_cells hrn HC2.out.own (Nat.le_trans HC2.out.bas (Nat.le_of_lt (Boxed.lt HC2.out.obx))) (by have := HL2.out; have := rW_len; omega))).mono ?_
  rintro e wn3 ⟨vv, rfl, h1, h2⟩
  obtain ⟨ga3, gn3, gc3, rfl⟩ := OwnB.slice h1
  obtain ⟨X3, hX⟩ : ∃ X, X = X2 ++ rW ++ digT rn := ⟨_, rfl⟩
  rw [← hX] at h1
  have HX3 : Hid (X3 = X2 ++ rW ++ digT rn) := hX
  have HL3 : Hid (X3.length ≤ 24) := by have := HL2.out; have := rW_len; have := digT_len rn; rw [Hid, hX, List.length_append, List.length_append]; omega
  obtain ⟨V3, hV⟩ : ∃ V, V = wn3.setCell ⟨W4.heap.size, 0, none⟩ (.slice ga3 gn3 gc3) := ⟨_, rfl⟩
  have HV3 : Hid (wn3.setCell ⟨W4.heap.size, 0, none⟩ (.slice ga3 gn3 gc3) = V3) := hV.symm
  have HC3 : Hid (CtI w.heap.size w.heap.size w2.heap.size W4.heap.size KC SC w V3 (.slice ga3 gn3 gc3) X3) := by rw [Hid, hV]; exact HC2.out.num h1 h2 hne1 hne2
  have ob3 := Boxed.cell (show Boxed wn3 W4.heap.size 28 v2 from h2.k5.2 _ _ _ _ (by decide) HC2.out.obx)
  have fb3 := Boxed.frozen (show Boxed wn3 W4.heap.size 28 v2 from h2.k5.2 _ _ _ _ (by decide) HC2.out.obx)
  have hV3 := HV3.out
  clear y0 y1 y2 y3 y4 y5 y6 y7 y8 y9 y10 s0 s1 s2 s3 s4 s5 s6 s7 oc h1 h2 hX hV
  have hkb : BoxK 53 V3 w.heap.size 3 (fn : Nat) (rn : Nat) (un : Nat) xp xn yp yn (.slice ia im ic) (an : Nat) (bn : Nat) := by rw [BoxK, ← HKC.out]; exact HC3.out.kbx
  obtain ⟨y0, y1, y2, y3, y4, y5, y6, y7, y8, y9, y10⟩ := hkb.cells
  have hsb : BoxS V3 w2.heap.size { data := #[97, 108, 108] } false true false true true false false := by rw [BoxS, ← HSC.out]; exact HC3.out.sbx
  obtain ⟨s0, s1, s2, s3, s4, s5, s6, s7⟩ := hsb.cells
  have oc := Boxed.cell HC3.out.obx
  clear hkb hsb
  have HXE : Hid (X3 = wdK 3 ++ numsK 3 fn rn un an bn) := by rw [Hid, HX3.out, HX2.out]; simp [numsK, hasF, hasR, hasU, hasP]
  gi_wp2_with fail
  refine (literals_inC _ V3).mono ?_
  rintro e w3 ⟨rfl, hw3⟩
  have hb3 : Below V3.heap.size V3 w3 := by rw [hw3]; exact (Below.refl _ _).alloc (Nat.le_refl _) _
  have HB3 : Hid (Below w.heap.size w w3) := HC3.out.bel.trans (hb3.mono (Nat.le_trans HC3.out.bas (Nat.le_of_lt (Boxed.lt HC3.out.obx))))
  have hs3 : V3.heap.size + 1 ≤ w3.heap.size := by rw [hw3]; simp
  have HBt : Hid (BoxK 53 w3 V3.heap.size 3 (fn : Nat) (rn : Nat) (un : Nat) xp xn yp yn (.slice ia im ic) (an : Nat) (bn : Nat)) := by unfold Hid; rw [hw3]; exact BoxK.new _ V3 _ _ _ _ _ _ _ _ _ _ _
  have hobl := Boxed.lt HC3.out.obx
  have hbas := HC3.out.bas
  have HI0 : Hid (InvC w.heap.size W4.heap.size w3.heap.size X3 w [] w3) := ⟨⟨(.slice ga3 gn3 gc3), boxed_below HC3.out.obx hb3 hobl, by simpa [litsT] using OwnB.below HC3.out.own hb3 (Nat.le_refl _)⟩, HB3.out, Nat.le_refl _, by omega⟩
  have HN : Hid ((litsL 0 (natP (six xp xn yp yn xs))).length ≤ 288) := by
    have := litsL_length (natP (six xp xn yp yn xs)) 0
    have e : (natP (six xp xn yp yn xs)).length = 6 := by simp [natP, six]
    rw [Hid]; omega
  have hn1 : w.heap.size ≤ w3.heap.size := HB3.out.size
  clear hb3 hw3 y0 y1 y2 y3 y4 y5 y6 y7 y8 y9 y10 s0 s1 s2 s3 s4 s5 s6 s7 oc
  gi_wp2_with fail
  refine wpIn_rangeFunc_ownH rfl (by omega) (gf := 83) (lb := #[.pointer (some ⟨V3.heap.size, 0, none⟩)]) rfl trivial (enters_of Tryz.func83 (by kernel_rfl) rfl)
    (lits_stops5 (lo := lo) (hi := hi) (B := w.heap.size) (n1 := w3.heap.size) 5 V3.heap.size hhi (by omega) hg HR.out HIm.out HPt.out HTb.out HB3.out (Nat.le_refl _) HBt.out) Kp5.trans
    (fun W l o o' hl hW hc _ => Kp5.putObj W l o o' (by omega) hW hc) (Below.refl _ _) (fun _ => rfl)
    (fun pre W => InvC w.heap.size W4.heap.size w3.heap.size X3 w (pre.map Subtype.val) W) (fun _ _ _ => False) (fun pre V V' row h hg hr => InvC.own (B := w3.heap.size) (by omega) (pre.map Subtype.val) V V' row h hg hr) (fun _ _ _ _ _ h _ _ => h)
    HI0.out
    (fun x => AxC w3.heap.size 98 (fun lv bx => #[.agg #[.int .i64 3, .int .i64 (fn : Nat), .int .i64 (rn : Nat), .int .i64 (un : Nat), .int .i64 xp, .int .i64 xn, .int .i64 yp, .int .i64 yn, .slice ia im ic, .int .i64 (an : Nat), .int .i64 (bn : Nat)], .pointer (some ⟨w.heap.size, 0, none⟩), .slice none 0 0, .pointer (some ⟨w2.heap.size, 0, none⟩), .bool true, .pointer (some ⟨W4.heap.size, 0, none⟩), bx, .agg #[.int .i64 3, .int .i64 (fn : Nat), .int .i64 (rn : Nat), .int .i64 (un : Nat), .int .i64 xp, .int .i64 xn, .int .i64 yp, .int .i64 yn, .slice ia im ic, .int .i64 (an : Nat), .int .i64 (bn : Nat)], .bool true, .bool false, .tuple #[.agg #[.string { data := #[97, 108, 108] }, .bool false, .bool true, .bool false, .bool true, .bool true, .bool false, .bool false], .bool true], .pointer (some ⟨w.heap.size, 0, none⟩), .int .i64 3, .tuple #[.agg #[.string { data := #[97, 108, 108] }, .bool false, .bool true, .bool false, .bool true, .bool true, .bool false, .bool false], .bool true], .agg #[.string { data := #[97, 108, 108] }, .bool false, .bool true, .bool false, .bool true, .bool true, .bool false, .bool false], .bool true, .pointer (some ⟨w2.heap.size, 0, none⟩), .string { data := #[97, 108, 108] }, .slice (some ⟨W3.heap.size, 0, none⟩) 3 cp, .pointer (some ⟨w2.heap.size, 1, none⟩), .bool false, undef, undef, undef, undef, .pointer (some ⟨w2.heap.size, 2, none⟩), .bool true, v2, .pointer (some ⟨w.heap.size, 2, none⟩), .int .i64 (rn : Nat), .slice ga3 gn3 gc3, .pointer (some ⟨w2.heap.size, 3, none⟩), .bool false, undef, undef, undef, undef, .pointer (some ⟨w2.heap.size, 7, none⟩), .bool false, undef, undef, undef, undef, undef, undef, undef, undef, .agg #[.int .i64 3, .int .i64 (fn : Nat), .int .i64 (rn : Nat), .int .i64 (un : Nat), .int .i64 xp, .int .i64 xn, .int .i64 yp, .int .i64 yn, .slice ia im ic, .int .i64 (an : Nat), .int .i64 (bn : Nat)], .func (.func 83) #[] #[.pointer (some ⟨V3.heap.size, 0, none⟩)], lv, undef, undef, undef, undef]) x.1) (fun x => AxC.own x.1) ?assign ?body ?done ?stop
  case assign =>
    rintro l pre ⟨x, hx6, hx24⟩ W K hI hK
    unfold encL
    have hlt := hI.size
    gi_wp2_with fail
    have hB : Below W.heap.size W (W.alloc (.cells #[.int .i64 (x.place : Nat), .int .i64 (x.atom : Nat), .bool x.no] 98)) := (Below.refl _ _).alloc (Nat.le_refl _) _
    obtain ⟨⟨v, h1, h2⟩, h3, h4, h5⟩ := hI
    exact hK _ _ ((keepsOthers_below hB).from _) (Kp5.of_below hB h5) ⟨⟨v, h1.alloc _, own_allocT h2 _⟩, h3.alloc h5 _, Nat.le_trans h4 hB.size, Nat.le_trans h5 hB.size⟩
      ⟨W.heap.size, hlt, World.alloc_heap_new W _, rfl⟩
  case body => as_aux_lemma =>
    rintro l pre ⟨x, hx6, hx24⟩ a' W hl ⟨r', hr'⟩ hI ⟨Bx, hBx, hbox, rfl⟩ hlen
    have HMapA : Hid ((pre ++ [(⟨x, hx6, hx24⟩ : LX)]).map Subtype.val = pre.map Subtype.val ++ [x]) := by unfold Hid; rw [List.map_append]; rfl
    obtain ⟨pr, hpr⟩ : ∃ pr, pr = pre.map Subtype.val := ⟨_, rfl⟩
    have hI' : InvC w.heap.size W4.heap.size w3.heap.size X3 w pr W := by rw [hpr]; exact hI
    have HI : Hid (InvC w.heap.size W4.heap.size w3.heap.size X3 w pr W) := hI'
    rw [← hpr] at HMapA
    have hpl : pr.length ≤ 288 := by have := HN.out; rw [hpr, List.length_map]; omega
    obtain ⟨⟨v, hv, hO⟩, _, hsW, hbW⟩ := hI'
    obtain ⟨Y, hY⟩ : ∃ Y, Y = X3 ++ litsT pr := ⟨_, rfl⟩
    have HY : Hid (Y = X3 ++ litsT pr) := hY
    have HO : Hid (OwnB w.heap.size W v Y) := by rw [Hid, hY]; exact hO
    have hYl : Y.length ≤ 1000000 := by
      have h1 := litsT_len pr
      have h2 := HL3.out
      rw [hY, List.length_append]; omega
    have HV : Hid (Boxed W W4.heap.size 28 v) := hv
    have oc := Boxed.cell hv
    have l0 : W.cell? ⟨Bx, 0, none⟩ = some (.int .i64 (x.place : Nat)) := by simp [World.cell?, hbox]
    have l1 : W.cell? ⟨Bx, 1, none⟩ = some (.int .i64 (x.atom : Nat)) := by simp [World.cell?, hbox]
    have l2 : W.cell? ⟨Bx, 2, none⟩ = some (.bool x.no) := by simp [World.cell?, hbox]
    clear hI hO hpr hbox hr' hlen hY hv
    obtain ⟨pl, at', no⟩ := x
    simp only at hx6 hx24 l0 l1 l2
    cases no with
    | false =>
      gi_wp2_with fail
      refine ⟨trivial, (callsIn_wide.2 (addLiteral_pos pl at' hx6 hx24 HO.out hbW hYl)).mono ?_⟩
      rintro e W5 ⟨vv, rfl, h1, h2⟩
      obtain ⟨ga, gn, gc, rfl⟩ := OwnB.slice h1
      have HE : Hid (Y ++ [(32 : Int)] ++ digT at' ++ [markI pl] = X3 ++ litsT (pr ++ [⟨pl, at', false⟩])) := by rw [Hid, HY.out, litsT_append]; simp [litsT, litT, markI]
      rw [HE.out] at h1
      have hov : Boxed W5 W4.heap.size 28 v := h2.k5.2 _ _ _ _ (by decide) HV.out
      have HF : Hid (KeepsFrom w3.heap.size W (W5.setCell ⟨W4.heap.size, 0, none⟩ (.slice ga gn gc)) ∧ Kp5 w.heap.size w3.heap.size W (W5.setCell ⟨W4.heap.size, 0, none⟩ (.slice ga gn gc)) ∧ InvC w.heap.size W4.heap.size w3.heap.size X3 w (pr ++ [⟨pl, at', false⟩]) (W5.setCell ⟨W4.heap.size, 0, none⟩ (.slice ga gn gc))) := InvC.step HI.out (by omega) (by omega) HV.out h1 (by rw [← HY.out]; exact HO.out) h2
      have oc5 := Boxed.cell hov
      have fc5 := Boxed.frozen hov
      clear h1 h2 hov l0 l1 l2 oc
      gi_wp2_with fail
      rw [← HMapA.out] at HF
      exact HF.out
    | true =>
      gi_wp2_with fail
      refine ⟨trivial, (callsIn_wide.2 (addLiteral_neg pl at' hx6 hx24 HO.out hbW hYl)).mono ?_⟩
      rintro e W5 ⟨vv, rfl, h1, h2⟩
      obtain ⟨ga, gn, gc, rfl⟩ := OwnB.slice h1
      have HE : Hid (Y ++ dashW ++ digT at' ++ [markI pl] = X3 ++ litsT (pr ++ [⟨pl, at', true⟩])) := by rw [Hid, HY.out, litsT_append]; simp [litsT, litT, markI, dashW]
      rw [HE.out] at h1
      have hov : Boxed W5 W4.heap.size 28 v := h2.k5.2 _ _ _ _ (by decide) HV.out
      have HF : Hid (KeepsFrom w3.heap.size W (W5.setCell ⟨W4.heap.size, 0, none⟩ (.slice ga gn gc)) ∧ Kp5 w.heap.size w3.heap.size W (W5.setCell ⟨W4.heap.size, 0, none⟩ (.slice ga gn gc)) ∧ InvC w.heap.size W4.heap.size w3.heap.size X3 w (pr ++ [⟨pl, at', true⟩]) (W5.setCell ⟨W4.heap.size, 0, none⟩ (.slice ga gn gc))) := InvC.step HI.out (by omega) (by omega) HV.out h1 (by rw [← HY.out]; exact HO.out) h2
      have oc5 := Boxed.cell hov
      have fc5 := Boxed.frozen hov
      clear h1 h2 hov l0 l1 l2 oc
      gi_wp2_with fail
      rw [← HMapA.out] at HF
      exact HF.out
  case done =>
    rintro D ys' W hD hS hI hK
    obtain ⟨⟨v, hv, hO⟩, hbel, hsz, hbw⟩ := hI
    rw [show ys'.map Subtype.val = litsL 0 (natP (six xp xn yp yn xs)) from hS] at hO
    have HO : Hid (OwnB w.heap.size W v (X3 ++ litsT (litsL 0 (natP (six xp xn yp yn xs))))) := hO
    have HBel : Hid (Below w.heap.size w W) := hbel
    have HBw : Hid (w.heap.size ≤ W.heap.size) := hbw
    have HK4 : Hid (W.heap[D]? = some (.deferred (some []))) := hK
    have oc := Boxed.cell hv
    clear hO hbel hv hS hbw
    gi_wp2_with fail
    refine ⟨by simp, .inl ⟨_, _, rfl, run_takeDeferred HK4.out, ?_⟩⟩
    refine ⟨_, results_tmp rfl _ _ _, _, rfl, ?_, HBel.out.grown (grownBy_putObj' _ D _) HBw.out (fun k e => by cases e; omega)⟩
    rw [clT, ← HXE.out]
    refine OwnB.blk HO.out (fun b hb => World.putObj_heap_other (fun e => ?_))
    obtain ⟨c, f, hc⟩ := own_cells HO.out hb
    subst e
    rw [HK4.out] at hc
    cases hc
  case stop =>
    rintro D cd pre W hD hpre hI hK
    exact hI.elim
end

section
open Go.RowKit Go.Shelf
set_option linter.unusedVariables false

attribute [local go_sem] Oper.semAt_some
attribute [local go_sem ↓] about_wide

set_option maxRecDepth 100000 in
set_option maxHeartbeats 8000000 in
theorem implClauseText_1 {fn rn un an bn : Nat} {xp xn yp yn : Int} {ia : Option Addr} {im ic : Nat} {xs : List (Int × Int)} {w : World} {lo hi : Nat} (hR : RP lo hi w ia im ic xs) (hhi : hi ≤ w.heap.size) (hT : TabD w) (hg : 2 < w.heap.size) (hfn : fn < 100) (hrn : rn < 100) (hun : un < 100) (han : an < 100) (hbn : bn < 100) (hok : clauseB 1 (fn : Nat) (rn : Nat) (un : Nat) xp xn yp yn xs (an : Nat) (bn : Nat) = true) :
    Calls Tryz.prog 26 #[.agg #[.int .i64 1, .int .i64 (fn : Nat), .int .i64 (rn : Nat), .int .i64 (un : Nat), .int .i64 xp, .int .i64 xn, .int .i64 yp, .int .i64 yn, .slice ia im ic, .int .i64 (an : Nat), .int .i64 (bn : Nat)]] w fun e w' => ∃ v, e = .returned v ∧ OwnB w.heap.size w' v (clT 1 fn rn un (natP (six xp xn yp yn xs)) an bn) ∧ Below w.heap.size w w' := by
  obtain ⟨KC, hKC⟩ : ∃ KC : Array Value, KC = #[.int .i64 1, .int .i64 (fn : Nat), .int .i64 (rn : Nat), .int .i64 (un : Nat), .int .i64 xp, .int .i64 xn, .int .i64 yp, .int .i64 yn, .slice ia im ic, .int .i64 (an : Nat), .int .i64 (bn : Nat)] := ⟨_, rfl⟩
  have HKC : Hid (KC = #[.int .i64 1, .int .i64 (fn : Nat), .int .i64 (rn : Nat), .int .i64 (un : Nat), .int .i64 xp, .int .i64 xn, .int .i64 yp, .int .i64 yn, .slice ia im ic, .int .i64 (an : Nat), .int .i64 (bn : Nat)]) := hKC
  obtain ⟨SC, hSC⟩ : ∃ SC : Array Value, SC = #[.string { data := #[110, 101, 120, 116] }, .bool true, .bool false, .bool false, .bool true, .bool true, .bool false, .bool false] := ⟨_, rfl⟩
  have HSC : Hid (SC = #[.string { data := #[110, 101, 120, 116] }, .bool true, .bool false, .bool false, .bool true, .bool true, .bool false, .bool false]) := hSC
  have HSV : Hid (shapeV 1 = #[.string { data := #[110, 101, 120, 116] }, .bool true, .bool false, .bool false, .bool true, .bool true, .bool false, .bool false]) := by unfold Hid; simp [shapeV, wordK, hasF, hasR, hasU, hasX, hasY, hasI, hasP]
  obtain ⟨W, hW⟩ : ∃ W, W = w.alloc (.cells #[.int .i64 1, .int .i64 (fn : Nat), .int .i64 (rn : Nat), .int .i64 (un : Nat), .int .i64 xp, .int .i64 xn, .int .i64 yp, .int .i64 yn, .slice ia im ic, .int .i64 (an : Nat), .int .i64 (bn : Nat)] 53) := ⟨_, rfl⟩
  have HW : Hid (W = w.alloc (.cells #[.int .i64 1, .int .i64 (fn : Nat), .int .i64 (rn : Nat), .int .i64 (un : Nat), .int .i64 xp, .int .i64 xn, .int .i64 yp, .int .i64 yn, .slice ia im ic, .int .i64 (an : Nat), .int .i64 (bn : Nat)] 53)) := hW
  have hb0 : Below w.heap.size w W := by rw [hW]; exact (Below.refl _ _).alloc (Nat.le_refl _) _
  have HB0 : Hid (Below w.heap.size w W) := hb0
  have hkb : BoxK 53 W w.heap.size 1 (fn : Nat) (rn : Nat) (un : Nat) xp xn yp yn (.slice ia im ic) (an : Nat) (bn : Nat) := by rw [hW]; exact BoxK.new _ w _ _ _ _ _ _ _ _ _ _ _
  have HKB : Hid (BoxK 53 W w.heap.size 1 (fn : Nat) (rn : Nat) (un : Nat) xp xn yp yn (.slice ia im ic) (an : Nat) (bn : Nat)) := hkb
  have HR : Hid (RP lo hi w ia im ic xs) := hR
  have HRW : Hid (RP lo hi W ia im ic xs) := hR.below hb0 hhi
  have HIm : Hid (im = 0 ∨ im = 4) := by unfold Hid; rw [← hR.len]; exact clauseB_inds hok
  have HPt : Hid (∀ x ∈ six xp xn yp yn xs, partB x.1 x.2 = true) := clauseB_parts hok
  have HTb : Hid (TabD w) := hT
  obtain ⟨y0, y1, y2, y3, y4, y5, y6, y7, y8, y9, y10⟩ := hkb.cells
  clear hkb hR hb0 hT hW hKC hSC
  refine (callsIn_wide (n := 6)).1 ?_
  refine callsIn_of_wp_marks Tryz.func26 rfl trivial ?_ rfl
  simp only [Tryz.ntmps26, List.size_toArray, List.length_cons, List.length_nil, Nat.reduceAdd, Nat.reduceSub, Array.replicate_succ, Array.replicate_zero, List.push_toArray, List.append_toArray, List.nil_append, List.cons_append]
  gi_upto_region 1 with fail
  rw [← HW.out]
  gi_wp2_with fail
  refine (callsIn_wide.2 (implClauseOk_any HRW.out (Nat.le_trans hhi HB0.out.size))).mono ?_
  rintro e w1 ⟨rfl, hb1⟩
  rw [hok]
  have HB1 : Hid (Below w.heap.size w w1) := HB0.out.trans (hb1.mono HB0.out.size)
  have HKB1 : Hid (BoxK 53 w1 w.heap.size 1 (fn : Nat) (rn : Nat) (un : Nat) xp xn yp yn (.slice ia im ic) (an : Nat) (bn : Nat)) := HKB.out.below hb1 HKB.out.lt
  clear hb1 y0 y1 y2 y3 y4 y5 y6 y7 y8 y9 y10
  obtain ⟨y0, y1, y2, y3, y4, y5, y6, y7, y8, y9, y10⟩ := HKB1.out.cells
  gi_wp2_with fail
  refine (callsIn_wide.2 (shapeOf_1 w1)).mono ?_
  rintro e w2 ⟨rfl, hb2⟩
  rw [HSV.out]
  have HB2 : Hid (Below w.heap.size w w2) := HB1.out.trans (hb2.mono HB1.out.size)
  have hkb2 : BoxK 53 w2 w.heap.size 1 (fn : Nat) (rn : Nat) (un : Nat) xp xn yp yn (.slice ia im ic) (an : Nat) (bn : Nat) := HKB1.out.below hb2 HKB1.out.lt
  have hl2 : w.heap.size < w2.heap.size := hkb2.lt
  obtain ⟨W3, hW3⟩ : ∃ W3, W3 = w2.alloc (.cells #[.string { data := #[110, 101, 120, 116] }, .bool true, .bool false, .bool false, .bool true, .bool true, .bool false, .bool false] 91) := ⟨_, rfl⟩
  have HW3 : Hid (w2.alloc (.cells #[.string { data := #[110, 101, 120, 116] }, .bool true, .bool false, .bool false, .bool true, .bool true, .bool false, .bool false] 91) = W3) := hW3.symm
  have hb3 : Below w2.heap.size w2 W3 := by rw [hW3]; exact (Below.refl _ _).alloc (Nat.le_refl _) _
  have hsb3 : BoxS W3 w2.heap.size { data := #[110, 101, 120, 116] } true false false true true false false := by rw [hW3]; exact BoxS.new _ _ _ _ _ _ _ _ _
  have hl3 : w2.heap.size < W3.heap.size := by rw [hW3]; simp
  obtain ⟨W4, hW4⟩ : ∃ W4, W4 = Lib.bytesWorld W3 5 { data := #[110, 101, 120, 116] } := ⟨_, rfl⟩
  obtain ⟨cp, hcp⟩ : ∃ cp, cp = grownCap W3 ({ data := #[110, 101, 120, 116] } : ByteArray).size 0 5 := ⟨_, rfl⟩
  obtain ⟨v2, hv2⟩ : ∃ v, v = Value.slice (some ⟨W3.heap.size, 0, none⟩) 4 cp := ⟨_, rfl⟩
  have hcv : (convert 9 28 (.string { data := #[110, 101, 120, 116] })).run Tryz.prog W3 = .ok (.slice (some ⟨W3.heap.size, 0, none⟩) 4 cp) W4 := by
    rw [Lib.run_convert_string_bytes W3 9 28 5 { data := #[110, 101, 120, 116] } Tryz.underlying9 Tryz.underlying28 Tryz.underlying5, ← hW4, ← hcp]
    rfl
  have hb4 : Below W3.heap.size W3 W4 := by rw [hW4]; exact conv_below W3 5 _
  have hl4 : W3.heap.size < W4.heap.size := by rw [hW4, Lib.bytesWorld_size]; omega
  obtain ⟨X2, hX2⟩ : ∃ X, X = wdK 1 := ⟨_, rfl⟩
  have HX2 : Hid (X2 = wdK 1) := hX2
  have HL2 : Hid (X2.length ≤ 8) := by rw [Hid, hX2]; decide
  have hq : OwnB w.heap.size W4 v2 X2 := by
    rw [hv2, hW4, hcp, hX2]
    exact ownsZ_conv W3 w.heap.size 5 { data := #[110, 101, 120, 116] } (by omega) (by unfold maxLen; decide)
  obtain ⟨V2, hV2⟩ : ∃ V, V = W4.alloc (.cells #[v2] 28) := ⟨_, rfl⟩
  have hb5 : Below W4.heap.size W4 V2 := by rw [hV2]; exact (Below.refl _ _).alloc (Nat.le_refl _) _
  have hkbV := ((hkb2.below hb3 hl2).below hb4 (by omega)).below hb5 (by omega)
  have hsbV := (hsb3.below hb4 hl3).below hb5 (by omega)
  have HC2 : Hid (CtI w.heap.size w.heap.size w2.heap.size W4.heap.size KC SC w V2 v2 X2) := by
    refine ⟨?_, ?_, ?_, ?_, ?_, ?_⟩
    · rw [HKC.out]; exact hkbV
    · rw [HSC.out]; exact hsbV
    · rw [hV2]; exact Boxed.new W4 28 v2
    · rw [hV2]
      exact own_allocT hq _
    · exact ((HB2.out.trans (hb3.mono (by omega))).trans (hb4.mono (by omega))).trans (hb5.mono (by omega))
    · omega
  have HV5 : Hid (W4.alloc (.cells #[.slice (some ⟨W3.heap.size, 0, none⟩) 4 cp] 28) = V2) := by rw [Hid, ← hv2]; exact hV2.symm
  have hne1 : w.heap.size ≠ W4.heap.size := by omega
  have hne2 : w2.heap.size ≠ W4.heap.size := by omega
  gi_upto_region 4 with fail
  rw [HW3.out]
  clear y0 y1 y2 y3 y4 y5 y6 y7 y8 y9 y10
  obtain ⟨s0, s1, s2, s3, s4, s5, s6, s7⟩ := hsb3.cells
  clear hb2 hkb2 hW3 hb3 hsb3 hW4 hcp hv2 hb4 hX2 hV2 hb5 hq
  gi_upto_region 5 with fail
  rw [HV5.out]
  clear hcv s0 s1 s2 s3 s4 s5 s6 s7
  obtain ⟨y0, y1, y2, y3, y4, y5, y6, y7, y8, y9, y10⟩ := hkbV.cells
  obtain ⟨s0, s1, s2, s3, s4, s5, s6, s7⟩ := hsbV.cells
  have oc := Boxed.cell HC2.out.obx
  clear hkbV hsbV
  gi_wp2_with fail
  refine (callsIn_wide.2 (addNumber6 fS fW fS_cells hfn HC2.out.own (Nat.le_trans HC2.out.bas (Nat.le_of_lt (Boxed.lt HC2.out.obx))) (by have := HL2.out; have := fW_len; omega))).mono ?_
  rintro e wn3 ⟨vv, rfl, h1, h2⟩
  obtain ⟨ga3, gn3, gc3, rfl⟩ := OwnB.slice h1
  obtain ⟨X3, hX⟩ : ∃ X, X = X2 ++ fW ++ digT fn := ⟨_, rfl⟩
  rw [← hX] at h1
  have HX3 : Hid (X3 = X2 ++ fW ++ digT fn) := hX
  have HL3 : Hid (X3.length ≤ 24) := by have := HL2.out; have := fW_len; have := digT_len fn; rw [Hid, hX, List.length_append, List.length_append]; omega
  obtain ⟨V3, hV⟩ : ∃ V, V = wn3.setCell ⟨W4.heap.size, 0, none⟩ (.slice ga3 gn3 gc3) := ⟨_, rfl⟩
  have HV3 : Hid (wn3.setCell ⟨W4.heap.size, 0, none⟩ (.slice ga3 gn3 gc3) = V3) := hV.symm
  have HC3 : Hid (CtI w.heap.size w.heap.size w2.heap.size W4.heap.size KC SC w V3 (.slice ga3 gn3 gc3) X3) := by rw [Hid, hV]; exact HC2.out.num h1 h2 hne1 hne2
  have ob3 := Boxed.cell (show Boxed wn3 W4.heap.size 28 v2 from h2.k5.2 _ _ _ _ (by decide) HC2.out.obx)
  have fb3 := Boxed.frozen (show Boxed wn3 W4.heap.size 28 v2 from h2.k5.2 _ _ _ _ (by decide) HC2.out.obx)
  have hV3 := HV3.out
  clear y0 y1 y2 y3 y4 y5 y6 y7 y8 y9 y10 s0 s1 s2 s3 s4 s5 s6 s7 oc h1 h2 hX hV
  have hkb : BoxK 53 V3 w.heap.size 1 (fn : Nat) (rn : Nat) (un : Nat) xp xn yp yn (.slice ia im ic) (an : Nat) (bn : Nat) := by rw [BoxK, ← HKC.out]; exact HC3.out.kbx
  obtain ⟨y0, y1, y2, y3, y4, y5, y6, y7, y8, y9, y10⟩ := hkb.cells
  have hsb : BoxS V3 w2.heap.size { data := #[110, 101, 120, 116] } true false false true true false false := by rw [BoxS, ← HSC.out]; exact HC3.out.sbx
  obtain ⟨s0, s1, s2, s3, s4, s5, s6, s7⟩ := hsb.cells
  have oc := Boxed.cell HC3.out.obx
  clear hkb hsb
  have HXE : Hid (X3 = wdK 1 ++ numsK 1 fn rn un an bn) := by rw [Hid, HX3.out, HX2.out]; simp [numsK, hasF, hasR, hasU, hasP]
  gi_wp2_with fail
  refine (literals_inC _ V3).mono ?_
  rintro e w3 ⟨rfl, hw3⟩
  have hb3 : Below V3.heap.size V3 w3 := by rw [hw3]; exact (Below.refl _ _).alloc (Nat.le_refl _) _
  have HB3 : Hid (Below w.heap.size w w3) := HC3.out.bel.trans (hb3.mono (Nat.le_trans HC3.out.bas (Nat.le_of_lt (Boxed.lt HC3.out.obx))))
  have hs3 : V3.heap.size + 1 ≤ w3.heap.size := by rw [hw3]; simp
  have HBt : Hid (BoxK 53 w3 V3.heap.size 1 (fn : Nat) (rn : Nat) (un : Nat) xp xn yp yn (.slice ia im ic) (an : Nat) (bn : Nat)) := by unfold Hid; rw [hw3]; exact BoxK.new _ V3 _ _ _ _ _ _ _ _ _ _ _
  have hobl := Boxed.lt HC3.out.obx
  have hbas := HC3.out.bas
  have HI0 : Hid (InvC w.heap.size W4.heap.size w3.heap.size X3 w [] w3) := ⟨⟨(.slice ga3 gn3 gc3), boxed_below HC3.out.obx hb3 hobl, by simpa [litsT] using OwnB.below HC3.out.own hb3 (Nat.le_refl _)⟩, HB3.out, Nat.le_refl _, by omega⟩
  have HN : Hid ((litsL 0 (natP (six xp xn yp yn xs))).length ≤ 288) := by
    have := litsL_length (natP (six xp xn yp yn xs)) 0
    have e : (natP (six xp xn yp yn xs)).length = 6 := by simp [natP, six]
    rw [Hid]; omega
  have hn1 : w.heap.size ≤ w3.heap.size := HB3.out.size
  clear hb3 hw3 y0 y1 y2 y3 y4 y5 y6 y7 y8 y9 y10 s0 s1 s2 s3 s4 s5 s6 s7 oc
  gi_wp2_with fail
  refine wpIn_rangeFunc_ownH rfl (by omega) (gf := 83) (lb := #[.pointer (some ⟨V3.heap.size, 0, none⟩)]) rfl trivial (enters_of Tryz.func83 (by kernel_rfl) rfl)
    (lits_stops5 (lo := lo) (hi := hi) (B := w.heap.size) (n1 := w3.heap.size) 5 V3.heap.size hhi (by omega) hg HR.out HIm.out HPt.out HTb.out HB3.out (Nat.le_refl _) HBt.out) Kp5.trans
    (fun W l o o' hl hW hc _ => Kp5.putObj W l o o' (by omega) hW hc) (Below.refl _ _) (fun _ => rfl)
    (fun pre W => InvC w.heap.size W4.heap.size w3.heap.size X3 w (pre.map Subtype.val) W) (fun _ _ _ => False) (fun pre V V' row h hg hr => InvC.own (B := w3.heap.size) (by omega) (pre.map Subtype.val) V V' row h hg hr) (fun _ _ _ _ _ h _ _ => h)
    HI0.out
    (fun x => AxC w3.heap.size 98 (fun lv bx => #[.agg #[.int .i64 1, .int .i64 (fn : Nat), .int .i64 (rn : Nat), .int .i64 (un : Nat), .int .i64 xp, .int .i64 xn, .int .i64 yp, .int .i64 yn, .slice ia im ic, .int .i64 (an : Nat), .int .i64 (bn : Nat)], .pointer (some ⟨w.heap.size, 0, none⟩), .slice none 0 0, .pointer (some ⟨w2.heap.size, 0, none⟩), .bool true, .pointer (some ⟨W4.heap.size, 0, none⟩), bx, .agg #[.int .i64 1, .int .i64 (fn : Nat), .int .i64 (rn : Nat), .int .i64 (un : Nat), .int .i64 xp, .int .i64 xn, .int .i64 yp, .int .i64 yn, .slice ia im ic, .int .i64 (an : Nat), .int .i64 (bn : Nat)], .bool true, .bool false, .tuple #[.agg #[.string { data := #[110, 101, 120, 116] }, .bool true, .bool false, .bool false, .bool true, .bool true, .bool false, .bool false], .bool true], .pointer (some ⟨w.heap.size, 0, none⟩), .int .i64 1, .tuple #[.agg #[.string { data := #[110, 101, 120, 116] }, .bool true, .bool false, .bool false, .bool true, .bool true, .bool false, .bool false], .bool true], .agg #[.string { data := #[110, 101, 120, 116] }, .bool true, .bool false, .bool false, .bool true, .bool true, .bool false, .bool false], .bool true, .pointer (some ⟨w2.heap.size, 0, none⟩), .string { data := #[110, 101, 120, 116] }, .slice (some ⟨W3.heap.size, 0, none⟩) 4 cp, .pointer (some ⟨w2.heap.size, 1, none⟩), .bool true, v2, .pointer (some ⟨w.heap.size, 1, none⟩), .int .i64 (fn : Nat), .slice ga3 gn3 gc3, .pointer (some ⟨w2.heap.size, 2, none⟩), .bool false, undef, undef, undef, undef, .pointer (some ⟨w2.heap.size, 3, none⟩), .bool false, undef, undef, undef, undef, .pointer (some ⟨w2.heap.size, 7, none⟩), .bool false, undef, undef, undef, undef, undef, undef, undef, undef, .agg #[.int .i64 1, .int .i64 (fn : Nat), .int .i64 (rn : Nat), .int .i64 (un : Nat), .int .i64 xp, .int .i64 xn, .int .i64 yp, .int .i64 yn, .slice ia im ic, .int .i64 (an : Nat), .int .i64 (bn : Nat)], .func (.func 83) #[] #[.pointer (some ⟨V3.heap.size, 0, none⟩)], lv, undef, undef, undef, undef]) x.1) (fun x => AxC.own x.1) ?assign ?body ?done ?stop
  case assign =>
    rintro l pre ⟨x, hx6, hx24⟩ W K hI hK
    unfold encL
    have hlt := hI.size
    gi_wp2_with fail
    have hB : Below W.heap.size W (W.alloc (.cells #[.int .i64 (x.place : Nat), .int .i64 (x.atom : Nat), .bool x.no] 98)) := (Below.refl _ _).alloc (Nat.le_refl _) _
    obtain ⟨⟨v, h1, h2⟩, h3, h4, h5⟩ := hI
    exact hK _ _ ((keepsOthers_below hB).from _) (Kp5.of_below hB h5) ⟨⟨v, h1.alloc _, own_allocT h2 _⟩, h3.alloc h5 _, Nat.le_trans h4 hB.size, Nat.le_trans h5 hB.size⟩
      ⟨W.heap.size, hlt, World.alloc_heap_new W _, rfl⟩
  case body => as_aux_lemma =>
    rintro l pre ⟨x, hx6, hx24⟩ a' W hl ⟨r', hr'⟩ hI ⟨Bx, hBx, hbox, rfl⟩ hlen
    have HMapA : Hid ((pre ++ [(⟨x, hx6, hx24⟩ : LX)]).map Subtype.val = pre.map Subtype.val ++ [x]) := by unfold Hid; rw [List.map_append]; rfl
    obtain ⟨pr, hpr⟩ : ∃ pr, pr = pre.map Subtype.val := ⟨_, rfl⟩
    have hI' : InvC w.heap.size W4.heap.size w3.heap.size X3 w pr W := by rw [hpr]; exact hI
    have HI : Hid (InvC w.heap.size W4.heap.size w3.heap.size X3 w pr W) := hI'
    rw [← hpr] at HMapA
    have hpl : pr.length ≤ 288 := by have := HN.out; rw [hpr, List.length_map]; omega
    obtain ⟨⟨v, hv, hO⟩, _, hsW, hbW⟩ := hI'
    obtain ⟨Y, hY⟩ : ∃ Y, Y = X3 ++ litsT pr := ⟨_, rfl⟩
    have HY : Hid (Y = X3 ++ litsT pr) := hY
    have HO : Hid (OwnB w.heap.size W v Y) := by rw [Hid, hY]; exact hO
    have hYl : Y.length ≤ 1000000 := by
      have h1 := litsT_len pr
      have h2 := HL3.out
      rw [hY, List.length_append]; omega
    have HV : Hid (Boxed W W4.heap.size 28 v) := hv
    have oc := Boxed.cell hv
    have l0 : W.cell? ⟨Bx, 0, none⟩ = some (.int .i64 (x.place : Nat)) := by simp [World.cell?, hbox]
    have l1 : W.cell? ⟨Bx, 1, none⟩ = some (.int .i64 (x.atom : Nat)) := by simp [World.cell?, hbox]
    have l2 : W.cell? ⟨Bx, 2, none⟩ = some (.bool x.no) := by simp [World.cell?, hbox]
    clear hI hO hpr hbox hr' hlen hY hv
    obtain ⟨pl, at', no⟩ := x
    simp only at hx6 hx24 l0 l1 l2
    cases no with
    | false =>
      gi_wp2_with fail
      refine ⟨trivial, (callsIn_wide.2 (addLiteral_pos pl at' hx6 hx24 HO.out hbW hYl)).mono ?_⟩
      rintro e W5 ⟨vv, rfl, h1, h2⟩
      obtain ⟨ga, gn, gc, rfl⟩ := OwnB.slice h1
      have HE : Hid (Y ++ [(32 : Int)] ++ digT at' ++ [markI pl] = X3 ++ litsT (pr ++ [⟨pl, at', false⟩])) := by rw [Hid, HY.out, litsT_append]; simp [litsT, litT, markI]
      rw [HE.out] at h1
      have hov : Boxed W5 W4.heap.size 28 v := h2.k5.2 _ _ _ _ (by decide) HV.out
      have HF : Hid (KeepsFrom w3.heap.size W (W5.setCell ⟨W4.heap.size, 0, none⟩ (.slice ga gn gc)) ∧ Kp5 w.heap.size w3.heap.size W (W5.setCell ⟨W4.heap.size, 0, none⟩ (.slice ga gn gc)) ∧ InvC w.heap.size W4.heap.size w3.heap.size X3 w (pr ++ [⟨pl, at', false⟩]) (W5.setCell ⟨W4.heap.size, 0, none⟩ (.slice ga gn gc))) := InvC.step HI.out (by omega) (by omega) HV.out h1 (by rw [← HY.out]; exact HO.out) h2
      have oc5 := Boxed.cell hov
      have fc5 := Boxed.frozen hov
      clear h1 h2 hov l0 l1 l2 oc
      gi_wp2_with fail
      rw [← HMapA.out] at HF
      exact HF.out
    | true =>
      gi_wp2_with fail
      refine ⟨trivial, (callsIn_wide.2 (addLiteral_neg pl at' hx6 hx24 HO.out hbW hYl)).mono ?_⟩
      rintro e W5 ⟨vv, rfl, h1, h2⟩
      obtain ⟨ga, gn, gc, rfl⟩ := OwnB.slice h1
      have HE : Hid (Y ++ dashW ++ digT at' ++ [markI pl] = X3 ++ litsT (pr ++ [⟨pl, at', true⟩])) := by rw [Hid, HY.out, litsT_append]; simp [litsT, litT, markI, dashW]
      rw [HE.out] at h1
      have hov : Boxed W5 W4.heap.size 28 v := h2.k5.2 _ _ _ _ (by decide) HV.out
      have HF : Hid (KeepsFrom w3.heap.size W (W5.setCell ⟨W4.heap.size, 0, none⟩ (.slice ga gn gc)) ∧ Kp5 w.heap.size w3.heap.size W (W5.setCell ⟨W4.heap.size, 0, none⟩ (.slice ga gn gc)) ∧ InvC w.heap.size W4.heap.size w3.heap.size X3 w (pr ++ [⟨pl, at', true⟩]) (W5.setCell ⟨W4.heap.size, 0, none⟩ (.slice ga gn gc))) := InvC.step HI.out (by omega) (by omega) HV.out h1 (by rw [← HY.out]; exact HO.out) h2
      have oc5 := Boxed.cell hov
      have fc5 := Boxed.frozen hov
      clear h1 h2 hov l0 l1 l2 oc
      gi_wp2_with fail
      rw [← HMapA.out] at HF
      exact HF.out
  case done =>
    rintro D ys' W hD hS hI hK
    obtain ⟨⟨v, hv, hO⟩, hbel, hsz, hbw⟩ := hI
    rw [show ys'.map Subtype.val = litsL 0 (natP (six xp xn yp yn xs)) from hS] at hO
    have HO : Hid (OwnB w.heap.size W v (X3 ++ litsT (litsL 0 (natP (six xp xn yp yn xs))))) := hO
    have HBel : Hid (Below w.heap.size w W) := hbel
    have HBw : Hid (w.heap.size ≤ W.heap.size) := hbw
    have HK4 : Hid (W.heap[D]? = some (.deferred (some []))) := hK
    have oc := Boxed.cell hv
    clear hO hbel hv hS hbw
    gi_wp2_with fail
    refine ⟨by simp, .inl ⟨_, _, rfl, run_takeDeferred HK4.out, ?_⟩⟩
    refine ⟨_, results_tmp rfl _ _ _, _, rfl, ?_, HBel.out.grown (grownBy_putObj' _ D _) HBw.out (fun k e => by cases e; omega)⟩
    rw [clT, ← HXE.out]
    refine OwnB.blk HO.out (fun b hb => World.putObj_heap_other (fun e => ?_))
    obtain ⟨c, f, hc⟩ := own_cells HO.out hb
    subst e
    rw [HK4.out] at hc
    cases hc
  case stop =>
    rintro D cd pre W hD hpre hI hK
    exact hI.elim
end

section
open Go.RowKit Go.Shelf
set_option linter.unusedVariables false

attribute [local go_sem] Oper.semAt_some
attribute [local go_sem ↓] about_wide

set_option maxRecDepth 100000 in
set_option maxHeartbeats 8000000 in
theorem implClauseText_2 {fn rn un an bn : Nat} {xp xn yp yn : Int} {ia : Option Addr} {im ic : Nat} {xs : List (Int × Int)} {w : World} {lo hi : Nat} (hR : RP lo hi w ia im ic xs) (hhi : hi ≤ w.heap.size) (hT : TabD w) (hg : 2 < w.heap.size) (hfn : fn < 100) (hrn : rn < 100) (hun : un < 100) (han : an < 100) (hbn : bn < 100) (hok : clauseB 2 (fn : Nat) (rn : Nat) (un : Nat) xp xn yp yn xs (an : Nat) (bn : Nat) = true) :
    Calls Tryz.prog 26 #[.agg #[.int .i64 2, .int .i64 (fn : Nat), .int .i64 (rn : Nat), .int .i64 (un : Nat), .int .i64 xp, .int .i64 xn, .int .i64 yp, .int .i64 yn, .slice ia im ic, .int .i64 (an : Nat), .int .i64 (bn : Nat)]] w fun e w' => ∃ v, e = .returned v ∧ OwnB w.heap.size w' v (clT 2 fn rn un (natP (six xp xn yp yn xs)) an bn) ∧ Below w.heap.size w w' := by
  obtain ⟨KC, hKC⟩ : ∃ KC : Array Value, KC = #[.int .i64 2, .int .i64 (fn : Nat), .int .i64 (rn : Nat), .int .i64 (un : Nat), .int .i64 xp, .int .i64 xn, .int .i64 yp, .int .i64 yn, .slice ia im ic, .int .i64 (an : Nat), .int .i64 (bn : Nat)] := ⟨_, rfl⟩
  have HKC : Hid (KC = #[.int .i64 2, .int .i64 (fn : Nat), .int .i64 (rn : Nat), .int .i64 (un : Nat), .int .i64 xp, .int .i64 xn, .int .i64 yp, .int .i64 yn, .slice ia im ic, .int .i64 (an : Nat), .int .i64 (bn : Nat)]) := hKC
  obtain ⟨SC, hSC⟩ : ∃ SC : Array Value, SC = #[.string { data := #[101, 100, 103, 101] }, .bool true, .bool true, .bool false, .bool true, .bool false, .bool false, .bool false] := ⟨_, rfl⟩
  have HSC : Hid (SC = #[.string { data := #[101, 100, 103, 101] }, .bool true, .bool true, .bool false, .bool true, .bool false, .bool false, .bool false]) := hSC
  have HSV : Hid (shapeV 2 = #[.string { data := #[101, 100, 103, 101] }, .bool true, .bool true, .bool false, .bool true, .bool false, .bool false, .bool false]) := by unfold Hid; simp [shapeV, wordK, hasF, hasR, hasU, hasX, hasY, hasI, hasP]
  obtain ⟨W, hW⟩ : ∃ W, W = w.alloc (.cells #[.int .i64 2, .int .i64 (fn : Nat), .int .i64 (rn : Nat), .int .i64 (un : Nat), .int .i64 xp, .int .i64 xn, .int .i64 yp, .int .i64 yn, .slice ia im ic, .int .i64 (an : Nat), .int .i64 (bn : Nat)] 53) := ⟨_, rfl⟩
  have HW : Hid (W = w.alloc (.cells #[.int .i64 2, .int .i64 (fn : Nat), .int .i64 (rn : Nat), .int .i64 (un : Nat), .int .i64 xp, .int .i64 xn, .int .i64 yp, .int .i64 yn, .slice ia im ic, .int .i64 (an : Nat), .int .i64 (bn : Nat)] 53)) := hW
  have hb0 : Below w.heap.size w W := by rw [hW]; exact (Below.refl _ _).alloc (Nat.le_refl _) _
  have HB0 : Hid (Below w.heap.size w W) := hb0
  have hkb : BoxK 53 W w.heap.size 2 (fn : Nat) (rn : Nat) (un : Nat) xp xn yp yn (.slice ia im ic) (an : Nat) (bn : Nat) := by rw [hW]; exact BoxK.new _ w _ _ _ _ _ _ _ _ _ _ _
  have HKB : Hid (BoxK 53 W w.heap.size 2 (fn : Nat) (rn : Nat) (un : Nat) xp xn yp yn (.slice ia im ic) (an : Nat) (bn : Nat)) := hkb
  have HR : Hid (RP lo hi w ia im ic xs) := hR
  have HRW : Hid (RP lo hi W ia im ic xs) := hR.below hb0 hhi
  have HIm : Hid (im = 0 ∨ im = 4) := by unfold Hid; rw [← hR.len]; exact clauseB_inds hok
  have HPt : Hid (∀ x ∈ six xp xn yp yn xs, partB x.1 x.2 = true) := clauseB_parts hok
  have HTb : Hid (TabD w) := hT
  obtain ⟨y0, y1, y2, y3, y4, y5, y6, y7, y8, y9, y10⟩ := hkb.cells
  clear hkb hR hb0 hT hW hKC hSC
  refine (callsIn_wide (n := 6)).1 ?_
  refine callsIn_of_wp_marks Tryz.func26 rfl trivial ?_ rfl
  simp only [Tryz.ntmps26, List.size_toArray, List.length_cons, List.length_nil, Nat.reduceAdd, Nat.reduceSub, Array.replicate_succ, Array.replicate_zero, List.push_toArray, List.append_toArray, List.nil_append, List.cons_append]
  gi_upto_region 1 with fail
  rw [← HW.out]
  gi_wp2_with fail
  refine (callsIn_wide.2 (implClauseOk_any HRW.out (Nat.le_trans hhi HB0.out.size))).mono ?_
  rintro e w1 ⟨rfl, hb1⟩
  rw [hok]
  have HB1 : Hid (Below w.heap.size w w1) := HB0.out.trans (hb1.mono HB0.out.size)
  have HKB1 : Hid (BoxK 53 w1 w.heap.size 2 (fn : Nat) (rn : Nat) (un : Nat) xp xn yp yn (.slice ia im ic) (an : Nat) (bn : Nat)) := HKB.out.below hb1 HKB.out.lt
  clear hb1 y0 y1 y2 y3 y4 y5 y6 y7 y8 y9 y10
  obtain ⟨y0, y1, y2, y3, y4, y5, y6, y7, y8, y9, y10⟩ := HKB1.out.cells
  gi_wp2_with fail
  refine (callsIn_wide.2 (shapeOf_2 w1)).mono ?_
  rintro e w2 ⟨rfl, hb2⟩
  rw [HSV.out]
  have HB2 : Hid (Below w.heap.size w w2) := HB1.out.trans (hb2.mono HB1.out.size)
  have hkb2 : BoxK 53 w2 w.heap.size 2 (fn : Nat) (rn : Nat) (un : Nat) xp xn yp yn (.slice ia im ic) (an : Nat) (bn : Nat) := HKB1.out.below hb2 HKB1.out.lt
  have hl2 : w.heap.size < w2.heap.size := hkb2.lt
  obtain ⟨W3, hW3⟩ : ∃ W3, W3 = w2.alloc (.cells #[.string { data := #[101, 100, 103, 101] }, .bool true, .bool true, .bool false, .bool true, .bool false, .bool false, .bool false] 91) := ⟨_, rfl⟩
  have HW3 : Hid (w2.alloc (.cells #[.string { data := #[101, 100, 103, 101] }, .bool true, .bool true, .bool false, .bool true, .bool false, .bool false, .bool false] 91) = W3) := hW3.symm
  have hb3 : Below w2.heap.size w2 W3 := by rw [hW3]; exact (Below.refl _ _).alloc (Nat.le_refl _) _
  have hsb3 : BoxS W3 w2.heap.size { data := #[101, 100, 103, 101] } true true false true false false false := by rw [hW3]; exact BoxS.new _ _ _ _ _ _ _ _ _
  have hl3 : w2.heap.size < W3.heap.size := by rw [hW3]; simp
  obtain ⟨W4, hW4⟩ : ∃ W4, W4 = Lib.bytesWorld W3 5 { data := #[101, 100, 103, 101] } := ⟨_, rfl⟩
  obtain ⟨cp, hcp⟩ : ∃ cp, cp = grownCap W3 ({ data := #[101, 100, 103, 101] } : ByteArray).size 0 5 := ⟨_, rfl⟩
  obtain ⟨v2, hv2⟩ : ∃ v, v = Value.slice (some ⟨W3.heap.size, 0, none⟩) 4 cp := ⟨_, rfl⟩
  have hcv : (convert 9 28 (.string { data := #[101, 100, 103, 101] })).run Tryz.prog W3 = .ok (.slice (some ⟨W3.heap.size, 0, none⟩) 4 cp) W4 := by
    rw [Lib.run_convert_string_bytes W3 9 28 5 { data := #[101, 100, 103, 101] } Tryz.underlying9 Tryz.underlying28 Tryz.underlying5, ← hW4, ← hcp]
    rfl
  have hb4 : Below W3.heap.size W3 W4 := by rw [hW4]; exact conv_below W3 5 _
  have hl4 : W3.heap.size < W4.heap.size := by rw [hW4, Lib.bytesWorld_size]; omega
  obtain ⟨X2, hX2⟩ : ∃ X, X = wdK 2 := ⟨_, rfl⟩
  have HX2 : Hid (X2 = wdK 2) := hX2
  have HL2 : Hid (X2.length ≤ 8) := by rw [Hid, hX2]; decide
  have hq : OwnB w.heap.size W4 v2 X2 := by
    rw [hv2, hW4, hcp, hX2]
    exact ownsZ_conv W3 w.heap.size 5 { data := #[101, 100, 103, 101] } (by omega) (by unfold maxLen; decide)
  obtain ⟨V2, hV2⟩ : ∃ V, V = W4.alloc (.cells #[v2] 28) := ⟨_, rfl⟩
  have hb5 : Below W4.heap.size W4 V2 := by rw [hV2]; exact (Below.refl _ _).alloc (Nat.le_refl _) _
  have hkbV := ((hkb2.below hb3 hl2).below hb4 (by omega)).below hb5 (by omega)
  have hsbV := (hsb3.below hb4 hl3).below hb5 (by omega)
  have HC2 : Hid (CtI w.heap.size w.heap.size w2.heap.size W4.heap.size KC SC w V2 v2 X2) := by
    refine ⟨?_, ?_, ?_, ?_, ?_, ?_⟩
    · rw [HKC.out]; exact hkbV
    · rw [HSC.out]; exact hsbV
    · rw [hV2]; exact Boxed.new W4 28 v2
    · rw [hV2]
      exact own_allocT hq _
    · exact ((HB2.out.trans (hb3.mono (by omega))).trans (hb4.mono (by omega))).trans (hb5.mono (by omega))
    · omega
  have HV5 : Hid (W4.alloc (.cells #[.slice (some ⟨W3.heap.size, 0, none⟩) 4 cp] 28) = V2) := by rw [Hid, ← hv2]; exact hV2.symm
  have hne1 : w.heap.size ≠ W4.heap.size := by omega
  have hne2 : w2.heap.size ≠ W4.heap.size := by omega
  gi_upto_region 4 with fail
  rw [HW3.out]
  clear y0 y1 y2 y3 y4 y5 y6 y7 y8 y9 y10
  obtain ⟨s0, s1, s2, s3, s4, s5, s6, s7⟩ := hsb3.cells
  clear hb2 hkb2 hW3 hb3 hsb3 hW4 hcp hv2 hb4 hX2 hV2 hb5 hq
  gi_upto_region 5 with fail
  rw [HV5.out]
  clear hcv s0 s1 s2 s3 s4 s5 s6 s7
  obtain ⟨y0, y1, y2, y3, y4, y5, y6, y7, y8, y9, y10⟩ := hkbV.cells
  obtain ⟨s0, s1, s2, s3, s4, s5, s6, s7⟩ := hsbV.cells
  have oc := Boxed.cell HC2.out.obx
  clear hkbV hsbV
  gi_wp2_with fail
  refine (callsIn_wide.2 (addNumber6 fS fW fS_cells hfn HC2.out.own (Nat.le_trans HC2.out.bas (Nat.le_of_lt (Boxed.lt HC2.out.obx))) (by have := HL2.out; have := fW_len; omega))).mono ?_
  rintro e wn3 ⟨vv, rfl, h1, h2⟩
  obtain ⟨ga3, gn3, gc3, rfl⟩ := OwnB.slice h1
  obtain ⟨X3, hX⟩ : ∃ X, X = X2 ++ fW ++ digT fn := ⟨_, rfl⟩
  rw [← hX] at h1
  have HX3 : Hid (X3 = X2 ++ fW ++ digT fn) := hX
  have HL3 : Hid (X3.length ≤ 24) := by have := HL2.out; have := fW_len; have := digT_len fn; rw [Hid, hX, List.length_append, List.length_append]; omega
  obtain ⟨V3, hV⟩ : ∃ V, V = wn3.setCell ⟨W4.heap.size, 0, none⟩ (.slice ga3 gn3 gc3) := ⟨_, rfl⟩
  have HV3 : Hid (wn3.setCell ⟨W4.heap.size, 0, none⟩ (.slice ga3 gn3 gc3) = V3) := hV.symm
  have HC3 : Hid (CtI w.heap.size w.heap.size w2.heap.size W4.heap.size KC SC w V3 (.slice ga3 gn3 gc3) X3) := by rw [Hid, hV]; exact HC2.out.num h1 h2 hne1 hne2
  have ob3 := Boxed.cell (show Boxed wn3 W4.heap.size 28 v2 from h2.k5.2 _ _ _ _ (by decide) HC2.out.obx)
  have fb3 := Boxed.frozen (show Boxed wn3 W4.heap.size 28 v2 from h2.k5.2 _ _ _ _ (by decide) HC2.out.obx)
  have hV3 := HV3.out
  clear y0 y1 y2 y3 y4 y5 y6 y7 y8 y9 y10 s0 s1 s2 s3 s4 s5 s6 s7 oc h1 h2 hX hV
  have hkb : BoxK 53 V3 w.heap.size 2 (fn : Nat) (rn : Nat) (un : Nat) xp xn yp yn (.slice ia im ic) (an : Nat) (bn : Nat) := by rw [BoxK, ← HKC.out]; exact HC3.out.kbx
  obtain ⟨y0, y1, y2, y3, y4, y5, y6, y7, y8, y9, y10⟩ := hkb.cells
  have hsb : BoxS V3 w2.heap.size { data := #[101, 100, 103, 101] } true true false true false false false := by rw [BoxS, ← HSC.out]; exact HC3.out.sbx
  obtain ⟨s0, s1, s2, s3, s4, s5, s6, s7⟩ := hsb.cells
  have oc := Boxed.cell HC3.out.obx
  clear hkb hsb
  gi_wp2_with fail
  refine (callsIn_wide.2 (addNumber6 rS rW rS_cells hrn HC3.out.own (Nat.le_trans HC3.out.bas (Nat.le_of_lt (Boxed.lt HC3.out.obx))) (by have := HL3.out; have := rW_len; omega))).mono ?_
  rintro e wn4 ⟨vv, rfl, h1, h2⟩
  obtain ⟨ga4, gn4, gc4, rfl⟩ := OwnB.slice h1
  obtain ⟨X4, hX⟩ : ∃ X, X = X3 ++ rW ++ digT rn := ⟨_, rfl⟩
  rw [← hX] at h1
  have HX4 : Hid (X4 = X3 ++ rW ++ digT rn) := hX
  have HL4 : Hid (X4.length ≤ 32) := by have := HL3.out; have := rW_len; have := digT_len rn; rw [Hid, hX, List.length_append, List.length_append]; omega
  obtain ⟨V4, hV⟩ : ∃ V, V = wn4.setCell ⟨W4.heap.size, 0, none⟩ (.slice ga4 gn4 gc4) := ⟨_, rfl⟩
  have HV4 : Hid (wn4.setCell ⟨W4.heap.size, 0, none⟩ (.slice ga4 gn4 gc4) = V4) := hV.symm
  have HC4 : Hid (CtI w.heap.size w.heap.size w2.heap.size W4.heap.size KC SC w V4 (.slice ga4 gn4 gc4) X4) := by rw [Hid, hV]; exact HC3.out.num h1 h2 hne1 hne2
  have ob4 := Boxed.cell (show Boxed wn4 W4.heap.size 28 (.slice ga3 gn3 gc3) from h2.k5.2 _ _ _ _ (by decide) HC3.out.obx)
  have fb4 := Boxed.frozen (show Boxed wn4 W4.heap.size 28 (.slice ga3 gn3 gc3) from h2.k5.2 _ _ _ _ (by decide) HC3.out.obx)
  have hV4 := HV4.out
  clear y0 y1 y2 y3 y4 y5 y6 y7 y8 y9 y10 s0 s1 s2 s3 s4 s5 s6 s7 oc h1 h2 hX hV
  have hkb : BoxK 53 V4 w.heap.size 2 (fn : Nat) (rn : Nat) (un : Nat) xp xn yp yn (.slice ia im ic) (an : Nat) (bn : Nat) := by rw [BoxK, ← HKC.out]; exact HC4.out.kbx
  obtain ⟨y0, y1, y2, y3, y4, y5, y6, y7, y8, y9, y10⟩ := hkb.cells
  have hsb : BoxS V4 w2.heap.size { data := #[101, 100, 103, 101] } true true false true false false false := by rw [BoxS, ← HSC.out]; exact HC4.out.sbx
  obtain ⟨s0, s1, s2, s3, s4, s5, s6, s7⟩ := hsb.cells
  have oc := Boxed.cell HC4.out.obx
  clear hkb hsb
  have HXE : Hid (X4 = wdK 2 ++ numsK 2 fn rn un an bn) := by rw [Hid, HX4.out, HX3.out, HX2.out]; simp [numsK, hasF, hasR, hasU, hasP]
  gi_wp2_with fail
  refine (literals_inC _ V4).mono ?_
  rintro e w3 ⟨rfl, hw3⟩
  have hb3 : Below V4.heap.size V4 w3 := by rw [hw3]; exact (Below.refl _ _).alloc (Nat.le_refl _) _
  have HB3 : Hid (Below w.heap.size w w3) := HC4.out.bel.trans (hb3.mono (Nat.le_trans HC4.out.bas (Nat.le_of_lt (Boxed.lt HC4.out.obx))))
  have hs3 : V4.heap.size + 1 ≤ w3.heap.size := by rw [hw3]; simp
  have HBt : Hid (BoxK 53 w3 V4.heap.size 2 (fn : Nat) (rn : Nat) (un : Nat) xp xn yp yn (.slice ia im ic) (an : Nat) (bn : Nat)) := by unfold Hid; rw [hw3]; exact BoxK.new _ V4 _ _ _ _ _ _ _ _ _ _ _
  have hobl := Boxed.lt HC4.out.obx
  have hbas := HC4.out.bas
  have HI0 : Hid (InvC w.heap.size W4.heap.size w3.heap.size X4 w [] w3) := ⟨⟨(.slice ga4 gn4 gc4), boxed_below HC4.out.obx hb3 hobl, by simpa [litsT] using OwnB.below HC4.out.own hb3 (Nat.le_refl _)⟩, HB3.out, Nat.le_refl _, by omega⟩
  have HN : Hid ((litsL 0 (natP (six xp xn yp yn xs))).length ≤ 288) := by
    have := litsL_length (natP (six xp xn yp yn xs)) 0
    have e : (natP (six xp xn yp yn xs)).length = 6 := by simp [natP, six]
    rw [Hid]; omega
  have hn1 : w.heap.size ≤ w3.heap.size := HB3.out.size
  clear hb3 hw3 y0 y1 y2 y3 y4 y5 y6 y7 y8 y9 y10 s0 s1 s2 s3 s4 s5 s6 s7 oc
  gi_wp2_with fail
  refine wpIn_rangeFunc_ownH rfl (by omega) (gf := 83) (lb := #[.pointer (some ⟨V4.heap.size, 0, none⟩)]) rfl trivial (enters_of Tryz.func83 (by kernel_rfl) rfl)
    (lits_stops5 (lo := lo) (hi := hi) (B := w.heap.size) (n1 := w3.heap.size) 5 V4.heap.size hhi (by omega) hg HR.out HIm.out HPt.out HTb.out HB3.out (Nat.le_refl _) HBt.out) Kp5.trans
    (fun W l o o' hl hW hc _ => Kp5.putObj W l o o' (by omega) hW hc) (Below.refl _ _) (fun _ => rfl)
    (fun pre W => InvC w.heap.size W4.heap.size w3.heap.size X4 w (pre.map Subtype.val) W) (fun _ _ _ => False) (fun pre V V' row h hg hr => InvC.own (B := w3.heap.size) (by omega) (pre.map Subtype.val) V V' row h hg hr) (fun _ _ _ _ _ h _ _ => h)
    HI0.out
    (fun x => AxC w3.heap.size 98 (fun lv bx => #[.agg #[.int .i64 2, .int .i64 (fn : Nat), .int .i64 (rn : Nat), .int .i64 (un : Nat), .int .i64 xp, .int .i64 xn, .int .i64 yp, .int .i64 yn, .slice ia im ic, .int .i64 (an : Nat), .int .i64 (bn : Nat)], .pointer (some ⟨w.heap.size, 0, none⟩), .slice none 0 0, .pointer (some ⟨w2.heap.size, 0, none⟩), .bool true, .pointer (some ⟨W4.heap.size, 0, none⟩), bx, .agg #[.int .i64 2, .int .i64 (fn : Nat), .int .i64 (rn : Nat), .int .i64 (un : Nat), .int .i64 xp, .int .i64 xn, .int .i64 yp, .int .i64 yn, .slice ia im ic, .int .i64 (an : Nat), .int .i64 (bn : Nat)], .bool true, .bool false, .tuple #[.agg #[.string { data := #[101, 100, 103, 101] }, .bool true, .bool true, .bool false, .bool true, .bool false, .bool false, .bool false], .bool true], .pointer (some ⟨w.heap.size, 0, none⟩), .int .i64 2, .tuple #[.agg #[.string { data := #[101, 100, 103, 101] }, .bool true, .bool true, .bool false, .bool true, .bool false, .bool false, .bool false], .bool true], .agg #[.string { data := #[101, 100, 103, 101] }, .bool true, .bool true, .bool false, .bool true, .bool false, .bool false, .bool false], .bool true, .pointer (some ⟨w2.heap.size, 0, none⟩), .string { data := #[101, 100, 103, 101] }, .slice (some ⟨W3.heap.size, 0, none⟩) 4 cp, .pointer (some ⟨w2.heap.size, 1, none⟩), .bool true, v2, .pointer (some ⟨w.heap.size, 1, none⟩), .int .i64 (fn : Nat), .slice ga3 gn3 gc3, .pointer (some ⟨w2.heap.size, 2, none⟩), .bool true, .slice ga3 gn3 gc3, .pointer (some ⟨w.heap.size, 2, none⟩), .int .i64 (rn : Nat), .slice ga4 gn4 gc4, .pointer (some ⟨w2.heap.size, 3, none⟩), .bool false, undef, undef, undef, undef, .pointer (some ⟨w2.heap.size, 7, none⟩), .bool false, undef, undef, undef, undef, undef, undef, undef, undef, .agg #[.int .i64 2, .int .i64 (fn : Nat), .int .i64 (rn : Nat), .int .i64 (un : Nat), .int .i64 xp, .int .i64 xn, .int .i64 yp, .int .i64 yn, .slice ia im ic, .int .i64 (an : Nat), .int .i64 (bn : Nat)], .func (.func 83) #[] #[.pointer (some ⟨V4.heap.size, 0, none⟩)], lv, undef, undef, undef, undef]) x.1) (fun x => AxC.own x.1) ?assign ?body ?done ?stop
  case assign =>
    rintro l pre ⟨x, hx6, hx24⟩ W K hI hK
    unfold encL
    have hlt := hI.size
    gi_wp2_with fail
    have hB : Below W.heap.size W (W.alloc (.cells #[.int .i64 (x.place : Nat), .int .i64 (x.atom : Nat), .bool x.no] 98)) := (Below.refl _ _).alloc (Nat.le_refl _) _
    obtain ⟨⟨v, h1, h2⟩, h3, h4, h5⟩ := hI
    exact hK _ _ ((keepsOthers_below hB).from _) (Kp5.of_below hB h5) ⟨⟨v, h1.alloc _, own_allocT h2 _⟩, h3.alloc h5 _, Nat.le_trans h4 hB.size, Nat.le_trans h5 hB.size⟩
      ⟨W.heap.size, hlt, World.alloc_heap_new W _, rfl⟩
  case body => as_aux_lemma =>
    rintro l pre ⟨x, hx6, hx24⟩ a' W hl ⟨r', hr'⟩ hI ⟨Bx, hBx, hbox, rfl⟩ hlen
    have HMapA : Hid ((pre ++ [(⟨x, hx6, hx24⟩ : LX)]).map Subtype.val = pre.map Subtype.val ++ [x]) := by unfold Hid; rw [List.map_append]; rfl
    obtain ⟨pr, hpr⟩ : ∃ pr, pr = pre.map Subtype.val := ⟨_, rfl⟩
    have hI' : InvC w.heap.size W4.heap.size w3.heap.size X4 w pr W := by rw [hpr]; exact hI
    have HI : Hid (InvC w.heap.size W4.heap.size w3.heap.size X4 w pr W) := hI'
    rw [← hpr] at HMapA
    have hpl : pr.length ≤ 288 := by have := HN.out; rw [hpr, List.length_map]; omega
    obtain ⟨⟨v, hv, hO⟩, _, hsW, hbW⟩ := hI'
    obtain ⟨Y, hY⟩ : ∃ Y, Y = X4 ++ litsT pr := ⟨_, rfl⟩
    have HY : Hid (Y = X4 ++ litsT pr) := hY
    have HO : Hid (OwnB w.heap.size W v Y) := by rw [Hid, hY]; exact hO
    have hYl : Y.length ≤ 1000000 := by
      have h1 := litsT_len pr
      have h2 := HL4.out
      rw [hY, List.length_append]; omega
    have HV : Hid (Boxed W W4.heap.size 28 v) := hv
    have oc := Boxed.cell hv
    have l0 : W.cell? ⟨Bx, 0, none⟩ = some (.int .i64 (x.place : Nat)) := by simp [World.cell?, hbox]
    have l1 : W.cell? ⟨Bx, 1, none⟩ = some (.int .i64 (x.atom : Nat)) := by simp [World.cell?, hbox]
    have l2 : W.cell? ⟨Bx, 2, none⟩ = some (.bool x.no) := by simp [World.cell?, hbox]
    clear hI hO hpr hbox hr' hlen hY hv
    obtain ⟨pl, at', no⟩ := x
    simp only at hx6 hx24 l0 l1 l2
    cases no with
    | false =>
      gi_wp2_with fail
      refine ⟨trivial, (callsIn_wide.2 (addLiteral_pos pl at' hx6 hx24 HO.out hbW hYl)).mono ?_⟩
      rintro e W5 ⟨vv, rfl, h1, h2⟩
      obtain ⟨ga, gn, gc, rfl⟩ := OwnB.slice h1
      have HE : Hid (Y ++ [(32 : Int)] ++ digT at' ++ [markI pl] = X4 ++ litsT (pr ++ [⟨pl, at', false⟩])) := by rw [Hid, HY.out, litsT_append]; simp [litsT, litT, markI]
      rw [HE.out] at h1
      have hov : Boxed W5 W4.heap.size 28 v := h2.k5.2 _ _ _ _ (by decide) HV.out
      have HF : Hid (KeepsFrom w3.heap.size W (W5.setCell ⟨W4.heap.size, 0, none⟩ (.slice ga gn gc)) ∧ Kp5 w.heap.size w3.heap.size W (W5.setCell ⟨W4.heap.size, 0, none⟩ (.slice ga gn gc)) ∧ InvC w.heap.size W4.heap.size w3.heap.size X4 w (pr ++ [⟨pl, at', false⟩]) (W5.setCell ⟨W4.heap.size, 0, none⟩ (.slice ga gn gc))) := InvC.step HI.out (by omega) (by omega) HV.out h1 (by rw [← HY.out]; exact HO.out) h2
      have oc5 := Boxed.cell hov
      have fc5 := Boxed.frozen hov
      clear h1 h2 hov l0 l1 l2 oc
      gi_wp2_with fail
      rw [← HMapA.out] at HF
      exact HF.out
    | true =>
      gi_wp2_with fail
      refine ⟨trivial, (callsIn_wide.2 (addLiteral_neg pl at' hx6 hx24 HO.out hbW hYl)).mono ?_⟩
      rintro e W5 ⟨vv, rfl, h1, h2⟩
      obtain ⟨ga, gn, gc, rfl⟩ := OwnB.slice h1
      have HE : Hid (Y ++ dashW ++ digT at' ++ [markI pl] = X4 ++ litsT (pr ++ [⟨pl, at', true⟩])) := by rw [Hid, HY.out, litsT_append]; simp [litsT, litT, markI, dashW]
      rw [HE.out] at h1
      have hov : Boxed W5 W4.heap.size 28 v := h2.k5.2 _ _ _ _ (by decide) HV.out
      have HF : Hid (KeepsFrom w3.heap.size W (W5.setCell ⟨W4.heap.size, 0, none⟩ (.slice ga gn gc)) ∧ Kp5 w.heap.size w3.heap.size W (W5.setCell ⟨W4.heap.size, 0, none⟩ (.slice ga gn gc)) ∧ InvC w.heap.size W4.heap.size w3.heap.size X4 w (pr ++ [⟨pl, at', true⟩]) (W5.setCell ⟨W4.heap.size, 0, none⟩ (.slice ga gn gc))) := InvC.step HI.out (by omega) (by omega) HV.out h1 (by rw [← HY.out]; exact HO.out) h2
      have oc5 := Boxed.cell hov
      have fc5 := Boxed.frozen hov
      clear h1 h2 hov l0 l1 l2 oc
      gi_wp2_with fail
      rw [← HMapA.out] at HF
      exact HF.out
  case done =>
    rintro D ys' W hD hS hI hK
    obtain ⟨⟨v, hv, hO⟩, hbel, hsz, hbw⟩ := hI
    rw [show ys'.map Subtype.val = litsL 0 (natP (six xp xn yp yn xs)) from hS] at hO
    have HO : Hid (OwnB w.heap.size W v (X4 ++ litsT (litsL 0 (natP (six xp xn yp yn xs))))) := hO
    have HBel : Hid (Below w.heap.size w W) := hbel
    have HBw : Hid (w.heap.size ≤ W.heap.size) := hbw
    have HK4 : Hid (W.heap[D]? = some (.deferred (some []))) := hK
    have oc := Boxed.cell hv
    clear hO hbel hv hS hbw
    gi_wp2_with fail
    refine ⟨by simp, .inl ⟨_, _, rfl, run_takeDeferred HK4.out, ?_⟩⟩
    refine ⟨_, results_tmp rfl _ _ _, _, rfl, ?_, HBel.out.grown (grownBy_putObj' _ D _) HBw.out (fun k e => by cases e; omega)⟩
    rw [clT, ← HXE.out]
    refine OwnB.blk HO.out (fun b hb => World.putObj_heap_other (fun e => ?_))
    obtain ⟨c, f, hc⟩ := own_cells HO.out hb
    subst e
    rw [HK4.out] at hc
    cases hc
  case stop =>
    rintro D cd pre W hD hpre hI hK
    exact hI.elim
end

section
open Go.RowKit Go.Shelf
set_option linter.unusedVariables false

attribute [local go_sem] Oper.semAt_some
attribute [local go_sem ↓] about_wide

set_option maxRecDepth 100000 in
set_option maxHeartbeats 8000000 in
theorem implClauseText_5 {fn rn un an bn : Nat} {xp xn yp yn : Int} {ia : Option Addr} {im ic : Nat} {xs : List (Int × Int)} {w : World} {lo hi : Nat} (hR : RP lo hi w ia im ic xs) (hhi : hi ≤ w.heap.size) (hT : TabD w) (hg : 2 < w.heap.size) (hfn : fn < 100) (hrn : rn < 100) (hun : un < 100) (han : an < 100) (hbn : bn < 100) (hok : clauseB 5 (fn : Nat) (rn : Nat) (un : Nat) xp xn yp yn xs (an : Nat) (bn : Nat) = true) :
    Calls Tryz.prog 26 #[.agg #[.int .i64 5, .int .i64 (fn : Nat), .int .i64 (rn : Nat), .int .i64 (un : Nat), .int .i64 xp, .int .i64 xn, .int .i64 yp, .int .i64 yn, .slice ia im ic, .int .i64 (an : Nat), .int .i64 (bn : Nat)]] w fun e w' => ∃ v, e = .returned v ∧ OwnB w.heap.size w' v (clT 5 fn rn un (natP (six xp xn yp yn xs)) an bn) ∧ Below w.heap.size w w' := by
  obtain ⟨KC, hKC⟩ : ∃ KC : Array Value, KC = #[.int .i64 5, .int .i64 (fn : Nat), .int .i64 (rn : Nat), .int .i64 (un : Nat), .int .i64 xp, .int .i64 xn, .int .i64 yp, .int .i64 yn, .slice ia im ic, .int .i64 (an : Nat), .int .i64 (bn : Nat)] := ⟨_, rfl⟩
  have HKC : Hid (KC = #[.int .i64 5, .int .i64 (fn : Nat), .int .i64 (rn : Nat), .int .i64 (un : Nat), .int .i64 xp, .int .i64 xn, .int .i64 yp, .int .i64 yn, .slice ia im ic, .int .i64 (an : Nat), .int .i64 (bn : Nat)]) := hKC
  obtain ⟨SC, hSC⟩ : ∃ SC : Array Value, SC = #[.string { data := #[102, 97, 99, 116] }, .bool false, .bool false, .bool false, .bool false, .bool false, .bool true, .bool false] := ⟨_, rfl⟩
  have HSC : Hid (SC = #[.string { data := #[102, 97, 99, 116] }, .bool false, .bool false, .bool false, .bool false, .bool false, .bool true, .bool false]) := hSC
  have HSV : Hid (shapeV 5 = #[.string { data := #[102, 97, 99, 116] }, .bool false, .bool false, .bool false, .bool false, .bool false, .bool true, .bool false]) := by unfold Hid; simp [shapeV, wordK, hasF, hasR, hasU, hasX, hasY, hasI, hasP]
  obtain ⟨W, hW⟩ : ∃ W, W = w.alloc (.cells #[.int .i64 5, .int .i64 (fn : Nat), .int .i64 (rn : Nat), .int .i64 (un : Nat), .int .i64 xp, .int .i64 xn, .int .i64 yp, .int .i64 yn, .slice ia im ic, .int .i64 (an : Nat), .int .i64 (bn : Nat)] 53) := ⟨_, rfl⟩
  have HW : Hid (W = w.alloc (.cells #[.int .i64 5, .int .i64 (fn : Nat), .int .i64 (rn : Nat), .int .i64 (un : Nat), .int .i64 xp, .int .i64 xn, .int .i64 yp, .int .i64 yn, .slice ia im ic, .int .i64 (an : Nat), .int .i64 (bn : Nat)] 53)) := hW
  have hb0 : Below w.heap.size w W := by rw [hW]; exact (Below.refl _ _).alloc (Nat.le_refl _) _
  have HB0 : Hid (Below w.heap.size w W) := hb0
  have hkb : BoxK 53 W w.heap.size 5 (fn : Nat) (rn : Nat) (un : Nat) xp xn yp yn (.slice ia im ic) (an : Nat) (bn : Nat) := by rw [hW]; exact BoxK.new _ w _ _ _ _ _ _ _ _ _ _ _
  have HKB : Hid (BoxK 53 W w.heap.size 5 (fn : Nat) (rn : Nat) (un : Nat) xp xn yp yn (.slice ia im ic) (an : Nat) (bn : Nat)) := hkb
  have HR : Hid (RP lo hi w ia im ic xs) := hR
  have HRW : Hid (RP lo hi W ia im ic xs) := hR.below hb0 hhi
  have HIm : Hid (im = 0 ∨ im = 4) := by unfold Hid; rw [← hR.len]; exact clauseB_inds hok
  have HPt : Hid (∀ x ∈ six xp xn yp yn xs, partB x.1 x.2 = true) := clauseB_parts hok
  have HTb : Hid (TabD w) := hT
  obtain ⟨y0, y1, y2, y3, y4, y5, y6, y7, y8, y9, y10⟩ := hkb.cells
  clear hkb hR hb0 hT hW hKC hSC
  refine (callsIn_wide (n := 6)).1 ?_
  refine callsIn_of_wp_marks Tryz.func26 rfl trivial ?_ rfl
  simp only [Tryz.ntmps26, List.size_toArray, List.length_cons, List.length_nil, Nat.reduceAdd, Nat.reduceSub, Array.replicate_succ, Array.replicate_zero, List.push_toArray, List.append_toArray, List.nil_append, List.cons_append]
  gi_upto_region 1 with fail
  rw [← HW.out]
  gi_wp2_with fail
  refine (callsIn_wide.2 (implClauseOk_any HRW.out (Nat.le_trans hhi HB0.out.size))).mono ?_
  rintro e w1 ⟨rfl, hb1⟩
  rw [hok]
  have HB1 : Hid (Below w.heap.size w w1) := HB0.out.trans (hb1.mono HB0.out.size)
  have HKB1 : Hid (BoxK 53 w1 w.heap.size 5 (fn : Nat) (rn : Nat) (un : Nat) xp xn yp yn (.slice ia im ic) (an : Nat) (bn : Nat)) := HKB.out.below hb1 HKB.out.lt
  clear hb1 y0 y1 y2 y3 y4 y5 y6 y7 y8 y9 y10
  obtain ⟨y0, y1, y2, y3, y4, y5, y6, y7, y8, y9, y10⟩ := HKB1.out.cells
  gi_wp2_with fail
  refine (callsIn_wide.2 (shapeOf_5 w1)).mono ?_
  rintro e w2 ⟨rfl, hb2⟩
  rw [HSV.out]
  have HB2 : Hid (Below w.heap.size w w2) := HB1.out.trans (hb2.mono HB1.out.size)
  have hkb2 : BoxK 53 w2 w.heap.size 5 (fn : Nat) (rn : Nat) (un : Nat) xp xn yp yn (.slice ia im ic) (an : Nat) (bn : Nat) := HKB1.out.below hb2 HKB1.out.lt
  have hl2 : w.heap.size < w2.heap.size := hkb2.lt
  obtain ⟨W3, hW3⟩ : ∃ W3, W3 = w2.alloc (.cells #[.string { data := #[102, 97, 99, 116] }, .bool false, .bool false, .bool false, .bool false, .bool false, .bool true, .bool false] 91) := ⟨_, rfl⟩
  have HW3 : Hid (w2.alloc (.cells #[.string { data := #[102, 97, 99, 116] }, .bool false, .bool false, .bool false, .bool false, .bool false, .bool true, .bool false] 91) = W3) := hW3.symm
  have hb3 : Below w2.heap.size w2 W3 := by rw [hW3]; exact (Below.refl _ _).alloc (Nat.le_refl _) _
  have hsb3 : BoxS W3 w2.heap.size { data := #[102, 97, 99, 116] } false false false false false true false := by rw [hW3]; exact BoxS.new _ _ _ _ _ _ _ _ _
  have hl3 : w2.heap.size < W3.heap.size := by rw [hW3]; simp
  obtain ⟨W4, hW4⟩ : ∃ W4, W4 = Lib.bytesWorld W3 5 { data := #[102, 97, 99, 116] } := ⟨_, rfl⟩
  obtain ⟨cp, hcp⟩ : ∃ cp, cp = grownCap W3 ({ data := #[102, 97, 99, 116] } : ByteArray).size 0 5 := ⟨_, rfl⟩
  obtain ⟨v2, hv2⟩ : ∃ v, v = Value.slice (some ⟨W3.heap.size, 0, none⟩) 4 cp := ⟨_, rfl⟩
  have hcv : (convert 9 28 (.string { data := #[102, 97, 99, 116] })).run Tryz.prog W3 = .ok (.slice (some ⟨W3.heap.size, 0, none⟩) 4 cp) W4 := by
    rw [Lib.run_convert_string_bytes W3 9 28 5 { data := #[102, 97, 99, 116] } Tryz.underlying9 Tryz.underlying28 Tryz.underlying5, ← hW4, ← hcp]
    rfl
  have hb4 : Below W3.heap.size W3 W4 := by rw [hW4]; exact conv_below W3 5 _
  have hl4 : W3.heap.size < W4.heap.size := by rw [hW4, Lib.bytesWorld_size]; omega
  obtain ⟨X2, hX2⟩ : ∃ X, X = wdK 5 := ⟨_, rfl⟩
  have HX2 : Hid (X2 = wdK 5) := hX2
  have HL2 : Hid (X2.length ≤ 8) := by rw [Hid, hX2]; decide
  have hq : OwnB w.heap.size W4 v2 X2 := by
    rw [hv2, hW4, hcp, hX2]
    exact ownsZ_conv W3 w.heap.size 5 { data := #[102, 97, 99, 116] } (by omega) (by unfold maxLen; decide)
  obtain ⟨V2, hV2⟩ : ∃ V, V = W4.alloc (.cells #[v2] 28) := ⟨_, rfl⟩
  have hb5 : Below W4.heap.size W4 V2 := by rw [hV2]; exact (Below.refl _ _).alloc (Nat.le_refl _) _
  have hkbV := ((hkb2.below hb3 hl2).below hb4 (by omega)).below hb5 (by omega)
  have hsbV := (hsb3.below hb4 hl3).below hb5 (by omega)
  have HC2 : Hid (CtI w.heap.size w.heap.size w2.heap.size W4.heap.size KC SC w V2 v2 X2) := by
    refine ⟨?_, ?_, ?_, ?_, ?_, ?_⟩
    · rw [HKC.out]; exact hkbV
    · rw [HSC.out]; exact hsbV
    · rw [hV2]; exact Boxed.new W4 28 v2
    · rw [hV2]
      exact own_allocT hq _
    · exact ((HB2.out.trans (hb3.mono (by omega))).trans (hb4.mono (by omega))).trans (hb5.mono (by omega))
    · omega
  have HV5 : Hid (W4.alloc (.cells #[.slice (some ⟨W3.heap.size, 0, none⟩) 4 cp] 28) = V2) := by rw [Hid, ← hv2]; exact hV2.symm
  have hne1 : w.heap.size ≠ W4.heap.size := by omega
  have hne2 : w2.heap.size ≠ W4.heap.size := by omega
  gi_upto_region 4 with fail
  rw [HW3.out]
  clear y0 y1 y2 y3 y4 y5 y6 y7 y8 y9 y10
  obtain ⟨s0, s1, s2, s3, s4, s5, s6, s7⟩ := hsb3.cells
  clear hb2 hkb2 hW3 hb3 hsb3 hW4 hcp hv2 hb4 hX2 hV2 hb5 hq
  gi_upto_region 5 with fail
  rw [HV5.out]
  clear hcv s0 s1 s2 s3 s4 s5 s6 s7
  obtain ⟨y0, y1, y2, y3, y4, y5, y6, y7, y8, y9, y10⟩ := hkbV.cells
  obtain ⟨s0, s1, s2, s3, s4, s5, s6, s7⟩ := hsbV.cells
  have oc := Boxed.cell HC2.out.obx
  clear hkbV hsbV
  have HXE : Hid (X2 = wdK 5 ++ numsK 5 fn rn un an bn) := by rw [Hid, HX2.out]; simp [numsK, hasF, hasR, hasU, hasP]
  gi_wp2_with fail
  refine (literals_inC _ V2).mono ?_
  rintro e w3 ⟨rfl, hw3⟩
  have hb3 : Below V2.heap.size V2 w3 := by rw [hw3]; exact (Below.refl _ _).alloc (Nat.le_refl _) _
  have HB3 : Hid (Below w.heap.size w w3) := HC2.out.bel.trans (hb3.mono (Nat.le_trans HC2.out.bas (Nat.le_of_lt (Boxed.lt HC2.out.obx))))
  have hs3 : V2.heap.size + 1 ≤ w3.heap.size := by rw [hw3]; simp
  have HBt : Hid (BoxK 53 w3 V2.heap.size 5 (fn : Nat) (rn : Nat) (un : Nat) xp xn yp yn (.slice ia im ic) (an : Nat) (bn : Nat)) := by unfold Hid; rw [hw3]; exact BoxK.new _ V2 _ _ _ _ _ _ _ _ _ _ _
  have hobl := Boxed.lt HC2.out.obx
  have hbas := HC2.out.bas
  have HI0 : Hid (InvC w.heap.size W4.heap.size w3.heap.size X2 w [] w3) := ⟨⟨v2, boxed_below HC2.out.obx hb3 hobl, by simpa [litsT] using OwnB.below HC2.out.own hb3 (Nat.le_refl _)⟩, HB3.out, Nat.le_refl _, by omega⟩
  have HN : Hid ((litsL 0 (natP (six xp xn yp yn xs))).length ≤ 288) := by
    have := litsL_length (natP (six xp xn yp yn xs)) 0
    have e : (natP (six xp xn yp yn xs)).length = 6 := by simp [natP, six]
    rw [Hid]; omega
  have hn1 : w.heap.size ≤ w3.heap.size := HB3.out.size
  clear hb3 hw3 y0 y1 y2 y3 y4 y5 y6 y7 y8 y9 y10 s0 s1 s2 s3 s4 s5 s6 s7 oc
  gi_wp2_with fail
  refine wpIn_rangeFunc_ownH rfl (by omega) (gf := 83) (lb := #[.pointer (some ⟨V2.heap.size, 0, none⟩)]) rfl trivial (enters_of Tryz.func83 (by kernel_rfl) rfl)
    (lits_stops5 (lo := lo) (hi := hi) (B := w.heap.size) (n1 := w3.heap.size) 5 V2.heap.size hhi (by omega) hg HR.out HIm.out HPt.out HTb.out HB3.out (Nat.le_refl _) HBt.out) Kp5.trans
    (fun W l o o' hl hW hc _ => Kp5.putObj W l o o' (by omega) hW hc) (Below.refl _ _) (fun _ => rfl)
    (fun pre W => InvC w.heap.size W4.heap.size w3.heap.size X2 w (pre.map Subtype.val) W) (fun _ _ _ => False) (fun pre V V' row h hg hr => InvC.own (B := w3.heap.size) (by omega) (pre.map Subtype.val) V V' row h hg hr) (fun _ _ _ _ _ h _ _ => h)
    HI0.out
    (fun x => AxC w3.heap.size 98 (fun lv bx => #[.agg #[.int .i64 5, .int .i64 (fn : Nat), .int .i64 (rn : Nat), .int .i64 (un : Nat), .int .i64 xp, .int .i64 xn, .int .i64 yp, .int .i64 yn, .slice ia im ic, .int .i64 (an : Nat), .int .i64 (bn : Nat)], .pointer (some ⟨w.heap.size, 0, none⟩), .slice none 0 0, .pointer (some ⟨w2.heap.size, 0, none⟩), .bool true, .pointer (some ⟨W4.heap.size, 0, none⟩), bx, .agg #[.int .i64 5, .int .i64 (fn : Nat), .int .i64 (rn : Nat), .int .i64 (un : Nat), .int .i64 xp, .int .i64 xn, .int .i64 yp, .int .i64 yn, .slice ia im ic, .int .i64 (an : Nat), .int .i64 (bn : Nat)], .bool true, .bool false, .tuple #[.agg #[.string { data := #[102, 97, 99, 116] }, .bool false, .bool false, .bool false, .bool false, .bool false, .bool true, .bool false], .bool true], .pointer (some ⟨w.heap.size, 0, none⟩), .int .i64 5, .tuple #[.agg #[.string { data := #[102, 97, 99, 116] }, .bool false, .bool false, .bool false, .bool false, .bool false, .bool true, .bool false], .bool true], .agg #[.string { data := #[102, 97, 99, 116] }, .bool false, .bool false, .bool false, .bool false, .bool false, .bool true, .bool false], .bool true, .pointer (some ⟨w2.heap.size, 0, none⟩), .string { data := #[102, 97, 99, 116] }, .slice (some ⟨W3.heap.size, 0, none⟩) 4 cp, .pointer (some ⟨w2.heap.size, 1, none⟩), .bool false, undef, undef, undef, undef, .pointer (some ⟨w2.heap.size, 2, none⟩), .bool false, undef, undef, undef, undef, .pointer (some ⟨w2.heap.size, 3, none⟩), .bool false, undef, undef, undef, undef, .pointer (some ⟨w2.heap.size, 7, none⟩), .bool false, undef, undef, undef, undef, undef, undef, undef, undef, .agg #[.int .i64 5, .int .i64 (fn : Nat), .int .i64 (rn : Nat), .int .i64 (un : Nat), .int .i64 xp, .int .i64 xn, .int .i64 yp, .int .i64 yn, .slice ia im ic, .int .i64 (an : Nat), .int .i64 (bn : Nat)], .func (.func 83) #[] #[.pointer (some ⟨V2.heap.size, 0, none⟩)], lv, undef, undef, undef, undef]) x.1) (fun x => AxC.own x.1) ?assign ?body ?done ?stop
  case assign =>
    rintro l pre ⟨x, hx6, hx24⟩ W K hI hK
    unfold encL
    have hlt := hI.size
    gi_wp2_with fail
    have hB : Below W.heap.size W (W.alloc (.cells #[.int .i64 (x.place : Nat), .int .i64 (x.atom : Nat), .bool x.no] 98)) := (Below.refl _ _).alloc (Nat.le_refl _) _
    obtain ⟨⟨v, h1, h2⟩, h3, h4, h5⟩ := hI
    exact hK _ _ ((keepsOthers_below hB).from _) (Kp5.of_below hB h5) ⟨⟨v, h1.alloc _, own_allocT h2 _⟩, h3.alloc h5 _, Nat.le_trans h4 hB.size, Nat.le_trans h5 hB.size⟩
      ⟨W.heap.size, hlt, World.alloc_heap_new W _, rfl⟩
  case body => as_aux_lemma =>
    rintro l pre ⟨x, hx6, hx24⟩ a' W hl ⟨r', hr'⟩ hI ⟨Bx, hBx, hbox, rfl⟩ hlen
    have HMapA : Hid ((pre ++ [(⟨x, hx6, hx24⟩ : LX)]).map Subtype.val = pre.map Subtype.val ++ [x]) := by unfold Hid; rw [List.map_append]; rfl
    obtain ⟨pr, hpr⟩ : ∃ pr, pr = pre.map Subtype.val := ⟨_, rfl⟩
    have hI' : InvC w.heap.size W4.heap.size w3.heap.size X2 w pr W := by rw [hpr]; exact hI
    have HI : Hid (InvC w.heap.size W4.heap.size w3.heap.size X2 w pr W) := hI'
    rw [← hpr] at HMapA
    have hpl : pr.length ≤ 288 := by have := HN.out; rw [hpr, List.length_map]; omega
    obtain ⟨⟨v, hv, hO⟩, _, hsW, hbW⟩ := hI'
    obtain ⟨Y, hY⟩ : ∃ Y, Y = X2 ++ litsT pr := ⟨_, rfl⟩
    have HY : Hid (Y = X2 ++ litsT pr) := hY
    have HO : Hid (OwnB w.heap.size W v Y) := by rw [Hid, hY]; exact hO
    have hYl : Y.length ≤ 1000000 := by
      have h1 := litsT_len pr
      have h2 := HL2.out
      rw [hY, List.length_append]; omega
    have HV : Hid (Boxed W W4.heap.size 28 v) := hv
    have oc := Boxed.cell hv
    have l0 : W.cell? ⟨Bx, 0, none⟩ = some (.int .i64 (x.place : Nat)) := by simp [World.cell?, hbox]
    have l1 : W.cell? ⟨Bx, 1, none⟩ = some (.int .i64 (x.atom : Nat)) := by simp [World.cell?, hbox]
    have l2 : W.cell? ⟨Bx, 2, none⟩ = some (.bool x.no) := by simp [World.cell?, hbox]
    clear hI hO hpr hbox hr' hlen hY hv
    obtain ⟨pl, at', no⟩ := x
    simp only at hx6 hx24 l0 l1 l2
    cases no with
    | false =>
      gi_wp2_with fail
      refine ⟨trivial, (callsIn_wide.2 (addLiteral_pos pl at' hx6 hx24 HO.out hbW hYl)).mono ?_⟩
      rintro e W5 ⟨vv, rfl, h1, h2⟩
      obtain ⟨ga, gn, gc, rfl⟩ := OwnB.slice h1
      have HE : Hid (Y ++ [(32 : Int)] ++ digT at' ++ [markI pl] = X2 ++ litsT (pr ++ [⟨pl, at', false⟩])) := by rw [Hid, HY.out, litsT_append]; simp [litsT, litT, markI]
      rw [HE.out] at h1
      have hov : Boxed W5 W4.heap.size 28 v := h2.k5.2 _ _ _ _ (by decide) HV.out
      have HF : Hid (KeepsFrom w3.heap.size W (W5.setCell ⟨W4.heap.size, 0, none⟩ (.slice ga gn gc)) ∧ Kp5 w.heap.size w3.heap.size W (W5.setCell ⟨W4.heap.size, 0, none⟩ (.slice ga gn gc)) ∧ InvC w.heap.size W4.heap.size w3.heap.size X2 w (pr ++ [⟨pl, at', false⟩]) (W5.setCell ⟨W4.heap.size, 0, none⟩ (.slice ga gn gc))) := InvC.step HI.out (by omega) (by omega) HV.out h1 (by rw [← HY.out]; exact HO.out) h2
      have oc5 := Boxed.cell hov
      have fc5 := Boxed.frozen hov
      clear h1 h2 hov l0 l1 l2 oc
      gi_wp2_with fail
      rw [← HMapA.out] at HF
      exact HF.out
    | true =>
      gi_wp2_with fail
      refine ⟨trivial, (callsIn_wide.2 (addLiteral_neg pl at' hx6 hx24 HO.out hbW hYl)).mono ?_⟩
      rintro e W5 ⟨vv, rfl, h1, h2⟩
      obtain ⟨ga, gn, gc, rfl⟩ := OwnB.slice h1
      have HE : Hid (Y ++ dashW ++ digT at' ++ [markI pl] = X2 ++ litsT (pr ++ [⟨pl, at', true⟩])) := by rw [Hid, HY.out, litsT_append]; simp [litsT, litT, markI, dashW]
      rw [HE.out] at h1
      have hov : Boxed W5 W4.heap.size 28 v := h2.k5.2 _ _ _ _ (by decide) HV.out
      have HF : Hid (KeepsFrom w3.heap.size W (W5.setCell ⟨W4.heap.size, 0, none⟩ (.slice ga gn gc)) ∧ Kp5 w.heap.size w3.heap.size W (W5.setCell ⟨W4.heap.size, 0, none⟩ (.slice ga gn gc)) ∧ InvC w.heap.size W4.heap.size w3.heap.size X2 w (pr ++ [⟨pl, at', true⟩]) (W5.setCell ⟨W4.heap.size, 0, none⟩ (.slice ga gn gc))) := InvC.step HI.out (by omega) (by omega) HV.out h1 (by rw [← HY.out]; exact HO.out) h2
      have oc5 := Boxed.cell hov
      have fc5 := Boxed.frozen hov
      clear h1 h2 hov l0 l1 l2 oc
      gi_wp2_with fail
      rw [← HMapA.out] at HF
      exact HF.out
  case done =>
    rintro D ys' W hD hS hI hK
    obtain ⟨⟨v, hv, hO⟩, hbel, hsz, hbw⟩ := hI
    rw [show ys'.map Subtype.val = litsL 0 (natP (six xp xn yp yn xs)) from hS] at hO
    have HO : Hid (OwnB w.heap.size W v (X2 ++ litsT (litsL 0 (natP (six xp xn yp yn xs))))) := hO
    have HBel : Hid (Below w.heap.size w W) := hbel
    have HBw : Hid (w.heap.size ≤ W.heap.size) := hbw
    have HK4 : Hid (W.heap[D]? = some (.deferred (some []))) := hK
    have oc := Boxed.cell hv
    clear hO hbel hv hS hbw
    gi_wp2_with fail
    refine ⟨by simp, .inl ⟨_, _, rfl, run_takeDeferred HK4.out, ?_⟩⟩
    refine ⟨_, results_tmp rfl _ _ _, _, rfl, ?_, HBel.out.grown (grownBy_putObj' _ D _) HBw.out (fun k e => by cases e; omega)⟩
    rw [clT, ← HXE.out]
    refine OwnB.blk HO.out (fun b hb => World.putObj_heap_other (fun e => ?_))
    obtain ⟨c, f, hc⟩ := own_cells HO.out hb
    subst e
    rw [HK4.out] at hc
    cases hc
  case stop =>
    rintro D cd pre W hD hpre hI hK
    exact hI.elim
end

section
open Go.RowKit Go.Shelf
set_option linter.unusedVariables false

attribute [local go_sem] Oper.semAt_some
attribute [local go_sem ↓] about_wide

set_option maxRecDepth 100000 in
set_option maxHeartbeats 8000000 in
theorem implClauseText_6 {fn rn un an bn : Nat} {xp xn yp yn : Int} {ia : Option Addr} {im ic : Nat} {xs : List (Int × Int)} {w : World} {lo hi : Nat} (hR : RP lo hi w ia im ic xs) (hhi : hi ≤ w.heap.size) (hT : TabD w) (hg : 2 < w.heap.size) (hfn : fn < 100) (hrn : rn < 100) (hun : un < 100) (han : an < 100) (hbn : bn < 100) (hok : clauseB 6 (fn : Nat) (rn : Nat) (un : Nat) xp xn yp yn xs (an : Nat) (bn : Nat) = true) :
    Calls Tryz.prog 26 #[.agg #[.int .i64 6, .int .i64 (fn : Nat), .int .i64 (rn : Nat), .int .i64 (un : Nat), .int .i64 xp, .int .i64 xn, .int .i64 yp, .int .i64 yn, .slice ia im ic, .int .i64 (an : Nat), .int .i64 (bn : Nat)]] w fun e w' => ∃ v, e = .returned v ∧ OwnB w.heap.size w' v (clT 6 fn rn un (natP (six xp xn yp yn xs)) an bn) ∧ Below w.heap.size w w' := by
  obtain ⟨KC, hKC⟩ : ∃ KC : Array Value, KC = #[.int .i64 6, .int .i64 (fn : Nat), .int .i64 (rn : Nat), .int .i64 (un : Nat), .int .i64 xp, .int .i64 xn, .int .i64 yp, .int .i64 yn, .slice ia im ic, .int .i64 (an : Nat), .int .i64 (bn : Nat)] := ⟨_, rfl⟩
  have HKC : Hid (KC = #[.int .i64 6, .int .i64 (fn : Nat), .int .i64 (rn : Nat), .int .i64 (un : Nat), .int .i64 xp, .int .i64 xn, .int .i64 yp, .int .i64 yn, .slice ia im ic, .int .i64 (an : Nat), .int .i64 (bn : Nat)]) := hKC
  obtain ⟨SC, hSC⟩ : ∃ SC : Array Value, SC = #[.string { data := #[112, 97, 105, 114] }, .bool false, .bool true, .bool false, .bool false, .bool false, .bool false, .bool true] := ⟨_, rfl⟩
  have HSC : Hid (SC = #[.string { data := #[112, 97, 105, 114] }, .bool false, .bool true, .bool false, .bool false, .bool false, .bool false, .bool true]) := hSC
  have HSV : Hid (shapeV 6 = #[.string { data := #[112, 97, 105, 114] }, .bool false, .bool true, .bool false, .bool false, .bool false, .bool false, .bool true]) := by unfold Hid; simp [shapeV, wordK, hasF, hasR, hasU, hasX, hasY, hasI, hasP]
  obtain ⟨W, hW⟩ : ∃ W, W = w.alloc (.cells #[.int .i64 6, .int .i64 (fn : Nat), .int .i64 (rn : Nat), .int .i64 (un : Nat), .int .i64 xp, .int .i64 xn, .int .i64 yp, .int .i64 yn, .slice ia im ic, .int .i64 (an : Nat), .int .i64 (bn : Nat)] 53) := ⟨_, rfl⟩
  have HW : Hid (W = w.alloc (.cells #[.int .i64 6, .int .i64 (fn : Nat), .int .i64 (rn : Nat), .int .i64 (un : Nat), .int .i64 xp, .int .i64 xn, .int .i64 yp, .int .i64 yn, .slice ia im ic, .int .i64 (an : Nat), .int .i64 (bn : Nat)] 53)) := hW
  have hb0 : Below w.heap.size w W := by rw [hW]; exact (Below.refl _ _).alloc (Nat.le_refl _) _
  have HB0 : Hid (Below w.heap.size w W) := hb0
  have hkb : BoxK 53 W w.heap.size 6 (fn : Nat) (rn : Nat) (un : Nat) xp xn yp yn (.slice ia im ic) (an : Nat) (bn : Nat) := by rw [hW]; exact BoxK.new _ w _ _ _ _ _ _ _ _ _ _ _
  have HKB : Hid (BoxK 53 W w.heap.size 6 (fn : Nat) (rn : Nat) (un : Nat) xp xn yp yn (.slice ia im ic) (an : Nat) (bn : Nat)) := hkb
  have HR : Hid (RP lo hi w ia im ic xs) := hR
  have HRW : Hid (RP lo hi W ia im ic xs) := hR.below hb0 hhi
  have HIm : Hid (im = 0 ∨ im = 4) := by unfold Hid; rw [← hR.len]; exact clauseB_inds hok
  have HPt : Hid (∀ x ∈ six xp xn yp yn xs, partB x.1 x.2 = true) := clauseB_parts hok
  have HTb : Hid (TabD w) := hT
  obtain ⟨y0, y1, y2, y3, y4, y5, y6, y7, y8, y9, y10⟩ := hkb.cells
  clear hkb hR hb0 hT hW hKC hSC
  refine (callsIn_wide (n := 6)).1 ?_
  refine callsIn_of_wp_marks Tryz.func26 rfl trivial ?_ rfl
  simp only [Tryz.ntmps26, List.size_toArray, List.length_cons, List.length_nil, Nat.reduceAdd, Nat.reduceSub, Array.replicate_succ, Array.replicate_zero, List.push_toArray, List.append_toArray, List.nil_append, List.cons_append]
  gi_upto_region 1 with fail
  rw [← HW.out]
  gi_wp2_with fail
  refine (callsIn_wide.2 (implClauseOk_any HRW.out (Nat.le_trans hhi HB0.out.size))).mono ?_
  rintro e w1 ⟨rfl, hb1⟩
  rw [hok]
  have HB1 : Hid (Below w.heap.size w w1) := HB0.out.trans (hb1.mono HB0.out.size)
  have HKB1 : Hid (BoxK 53 w1 w.heap.size 6 (fn : Nat) (rn : Nat) (un : Nat) xp xn yp yn (.slice ia im ic) (an : Nat) (bn : Nat)) := HKB.out.below hb1 HKB.out.lt
  clear hb1 y0 y1 y2 y3 y4 y5 y6 y7 y8 y9 y10
  obtain ⟨y0, y1, y2, y3, y4, y5, y6, y7, y8, y9, y10⟩ := HKB1.out.cells
  gi_wp2_with fail
  refine (callsIn_wide.2 (shapeOf_6 w1)).mono ?_
  rintro e w2 ⟨rfl, hb2⟩
  rw [HSV.out]
  have HB2 : Hid (Below w.heap.size w w2) := HB1.out.trans (hb2.mono HB1.out.size)
  have hkb2 : BoxK 53 w2 w.heap.size 6 (fn : Nat) (rn : Nat) (un : Nat) xp xn yp yn (.slice ia im ic) (an : Nat) (bn : Nat) := HKB1.out.below hb2 HKB1.out.lt
  have hl2 : w.heap.size < w2.heap.size := hkb2.lt
  obtain ⟨W3, hW3⟩ : ∃ W3, W3 = w2.alloc (.cells #[.string { data := #[112, 97, 105, 114] }, .bool false, .bool true, .bool false, .bool false, .bool false, .bool false, .bool true] 91) := ⟨_, rfl⟩
  have HW3 : Hid (w2.alloc (.cells #[.string { data := #[112, 97, 105, 114] }, .bool false, .bool true, .bool false, .bool false, .bool false, .bool false, .bool true] 91) = W3) := hW3.symm
  have hb3 : Below w2.heap.size w2 W3 := by rw [hW3]; exact (Below.refl _ _).alloc (Nat.le_refl _) _
  have hsb3 : BoxS W3 w2.heap.size { data := #[112, 97, 105, 114] } false true false false false false true := by rw [hW3]; exact BoxS.new _ _ _ _ _ _ _ _ _
  have hl3 : w2.heap.size < W3.heap.size := by rw [hW3]; simp
  obtain ⟨W4, hW4⟩ : ∃ W4, W4 = Lib.bytesWorld W3 5 { data := #[112, 97, 105, 114] } := ⟨_, rfl⟩
  obtain ⟨cp, hcp⟩ : ∃ cp, cp = grownCap W3 ({ data := #[112, 97, 105, 114] } : ByteArray).size 0 5 := ⟨_, rfl⟩
  obtain ⟨v2, hv2⟩ : ∃ v, v = Value.slice (some ⟨W3.heap.size, 0, none⟩) 4 cp := ⟨_, rfl⟩
  have hcv : (convert 9 28 (.string { data := #[112, 97, 105, 114] })).run Tryz.prog W3 = .ok (.slice (some ⟨W3.heap.size, 0, none⟩) 4 cp) W4 := by
    rw [Lib.run_convert_string_bytes W3 9 28 5 { data := #[112, 97, 105, 114] } Tryz.underlying9 Tryz.underlying28 Tryz.underlying5, ← hW4, ← hcp]
    rfl
  have hb4 : Below W3.heap.size W3 W4 := by rw [hW4]; exact conv_below W3 5 _
  have hl4 : W3.heap.size < W4.heap.size := by rw [hW4, Lib.bytesWorld_size]; omega
  obtain ⟨X2, hX2⟩ : ∃ X, X = wdK 6 := ⟨_, rfl⟩
  have HX2 : Hid (X2 = wdK 6) := hX2
  have HL2 : Hid (X2.length ≤ 8) := by rw [Hid, hX2]; decide
  have hq : OwnB w.heap.size W4 v2 X2 := by
    rw [hv2, hW4, hcp, hX2]
    exact ownsZ_conv W3 w.heap.size 5 { data := #[112, 97, 105, 114] } (by omega) (by unfold maxLen; decide)
  obtain ⟨V2, hV2⟩ : ∃ V, V = W4.alloc (.cells #[v2] 28) := ⟨_, rfl⟩
  have hb5 : Below W4.heap.size W4 V2 := by rw [hV2]; exact (Below.refl _ _).alloc (Nat.le_refl _) _
  have hkbV := ((hkb2.below hb3 hl2).below hb4 (by omega)).below hb5 (by omega)
  have hsbV := (hsb3.below hb4 hl3).below hb5 (by omega)
  have HC2 : Hid (CtI w.heap.size w.heap.size w2.heap.size W4.heap.size KC SC w V2 v2 X2) := by
    refine ⟨?_, ?_, ?_, ?_, ?_, ?_⟩
    · rw [HKC.out]; exact hkbV
    · rw [HSC.out]; exact hsbV
    · rw [hV2]; exact Boxed.new W4 28 v2
    · rw [hV2]
      exact own_allocT hq _
    · exact ((HB2.out.trans (hb3.mono (by omega))).trans (hb4.mono (by omega))).trans (hb5.mono (by omega))
    · omega
  have HV5 : Hid (W4.alloc (.cells #[.slice (some ⟨W3.heap.size, 0, none⟩) 4 cp] 28) = V2) := by rw [Hid, ← hv2]; exact hV2.symm
  have hne1 : w.heap.size ≠ W4.heap.size := by omega
  have hne2 : w2.heap.size ≠ W4.heap.size := by omega
  gi_upto_region 4 with fail
  rw [HW3.out]
  clear y0 y1 y2 y3 y4 y5 y6 y7 y8 y9 y10
  obtain ⟨s0, s1, s2, s3, s4, s5, s6, s7⟩ := hsb3.cells
  clear hb2 hkb2 hW3 hb3 hsb3 hW4 hcp hv2 hb4 hX2 hV2 hb5 hq
  gi_upto_region 5 with fail
  rw [HV5.out]
  clear hcv s0 s1 s2 s3 s4 s5 s6 s7
  obtain ⟨y0, y1, y2, y3, y4, y5, y6, y7, y8, y9, y10⟩ := hkbV.cells
  obtain ⟨s0, s1, s2, s3, s4, s5, s6, s7⟩ := hsbV.cells
  have oc := Boxed.cell HC2.out.obx
  clear hkbV hsbV
  gi_wp2_with fail
  refine (callsIn_wide.2 (addNumber6 rS rW rS_cells hrn HC2.out.own (Nat.le_trans HC2.out.bas (Nat.le_of_lt (Boxed.lt HC2.out.obx))) (by have := HL2.out; have := rW_len; omega))).mono ?_
  rintro e wn3 ⟨vv, rfl, h1, h2⟩
  obtain ⟨ga3, gn3, gc3, rfl⟩ := OwnB.slice h1
  obtain ⟨X3, hX⟩ : ∃ X, X = X2 ++ rW ++ digT rn := ⟨_, rfl⟩
  rw [← hX] at h1
  have HX3 : Hid (X3 = X2 ++ rW ++ digT rn) := hX
  have HL3 : Hid (X3.length ≤ 24) := by have := HL2.out; have := rW_len; have := digT_len rn; rw [Hid, hX, List.length_append, List.length_append]; omega
  obtain ⟨V3, hV⟩ : ∃ V, V = wn3.setCell ⟨W4.heap.size, 0, none⟩ (.slice ga3 gn3 gc3) := ⟨_, rfl⟩
  have HV3 : Hid (wn3.setCell ⟨W4.heap.size, 0, none⟩ (.slice ga3 gn3 gc3) = V3) := hV.symm
  have HC3 : Hid (CtI w.heap.size w.heap.size w2.heap.size W4.heap.size KC SC w V3 (.slice ga3 gn3 gc3) X3) := by rw [Hid, hV]; exact HC2.out.num h1 h2 hne1 hne2
  have ob3 := Boxed.cell (show Boxed wn3 W4.heap.size 28 v2 from h2.k5.2 _ _ _ _ (by decide) HC2.out.obx)
  have fb3 := Boxed.frozen (show Boxed wn3 W4.heap.size 28 v2 from h2.k5.2 _ _ _ _ (by decide) HC2.out.obx)
  have hV3 := HV3.out
  clear y0 y1 y2 y3 y4 y5 y6 y7 y8 y9 y10 s0 s1 s2 s3 s4 s5 s6 s7 oc h1 h2 hX hV
  have hkb : BoxK 53 V3 w.heap.size 6 (fn : Nat) (rn : Nat) (un : Nat) xp xn yp yn (.slice ia im ic) (an : Nat) (bn : Nat) := by rw [BoxK, ← HKC.out]; exact HC3.out.kbx
  obtain ⟨y0, y1, y2, y3, y4, y5, y6, y7, y8, y9, y10⟩ := hkb.cells
  have hsb : BoxS V3 w2.heap.size { data := #[112, 97, 105, 114] } false true false false false false true := by rw [BoxS, ← HSC.out]; exact HC3.out.sbx
  obtain ⟨s0, s1, s2, s3, s4, s5, s6, s7⟩ := hsb.cells
  have oc := Boxed.cell HC3.out.obx
  clear hkb hsb
  gi_wp2_with fail
  refine (callsIn_wide.2 (addNumber6 oS oW oS_cells han HC3.out.own (Nat.le_trans HC3.out.bas (Nat.le_of_lt (Boxed.lt HC3.out.obx))) (by have := HL3.out; have := oW_len; omega))).mono ?_
  rintro e wn4 ⟨vv, rfl, h1, h2⟩
  obtain ⟨ga4, gn4, gc4, rfl⟩ := OwnB.slice h1
  obtain ⟨X4, hX⟩ : ∃ X, X = X3 ++ oW ++ digT an := ⟨_, rfl⟩
  rw [← hX] at h1
  have HX4 : Hid (X4 = X3 ++ oW ++ digT an) := hX
  have HL4 : Hid (X4.length ≤ 32) := by have := HL3.out; have := oW_len; have := digT_len an; rw [Hid, hX, List.length_append, List.length_append]; omega
  obtain ⟨V4, hV⟩ : ∃ V, V = wn4.setCell ⟨W4.heap.size, 0, none⟩ (.slice ga4 gn4 gc4) := ⟨_, rfl⟩
  have HV4 : Hid (wn4.setCell ⟨W4.heap.size, 0, none⟩ (.slice ga4 gn4 gc4) = V4) := hV.symm
  have HC4 : Hid (CtI w.heap.size w.heap.size w2.heap.size W4.heap.size KC SC w V4 (.slice ga4 gn4 gc4) X4) := by rw [Hid, hV]; exact HC3.out.num h1 h2 hne1 hne2
  have ob4 := Boxed.cell (show Boxed wn4 W4.heap.size 28 (.slice ga3 gn3 gc3) from h2.k5.2 _ _ _ _ (by decide) HC3.out.obx)
  have fb4 := Boxed.frozen (show Boxed wn4 W4.heap.size 28 (.slice ga3 gn3 gc3) from h2.k5.2 _ _ _ _ (by decide) HC3.out.obx)
  have hV4 := HV4.out
  clear y0 y1 y2 y3 y4 y5 y6 y7 y8 y9 y10 s0 s1 s2 s3 s4 s5 s6 s7 oc h1 h2 hX hV
  have hkb : BoxK 53 V4 w.heap.size 6 (fn : Nat) (rn : Nat) (un : Nat) xp xn yp yn (.slice ia im ic) (an : Nat) (bn : Nat) := by rw [BoxK, ← HKC.out]; exact HC4.out.kbx
  obtain ⟨y0, y1, y2, y3, y4, y5, y6, y7, y8, y9, y10⟩ := hkb.cells
  have hsb : BoxS V4 w2.heap.size { data := #[112, 97, 105, 114] } false true false false false false true := by rw [BoxS, ← HSC.out]; exact HC4.out.sbx
  obtain ⟨s0, s1, s2, s3, s4, s5, s6, s7⟩ := hsb.cells
  have oc := Boxed.cell HC4.out.obx
  clear hkb hsb
  gi_wp2_with fail
  refine (callsIn_wide.2 (addNumber6 oS oW oS_cells hbn HC4.out.own (Nat.le_trans HC4.out.bas (Nat.le_of_lt (Boxed.lt HC4.out.obx))) (by have := HL4.out; have := oW_len; omega))).mono ?_
  rintro e wn5 ⟨vv, rfl, h1, h2⟩
  obtain ⟨ga5, gn5, gc5, rfl⟩ := OwnB.slice h1
  obtain ⟨X5, hX⟩ : ∃ X, X = X4 ++ oW ++ digT bn := ⟨_, rfl⟩
  rw [← hX] at h1
  have HX5 : Hid (X5 = X4 ++ oW ++ digT bn) := hX
  have HL5 : Hid (X5.length ≤ 40) := by have := HL4.out; have := oW_len; have := digT_len bn; rw [Hid, hX, List.length_append, List.length_append]; omega
  obtain ⟨V5, hV⟩ : ∃ V, V = wn5.setCell ⟨W4.heap.size, 0, none⟩ (.slice ga5 gn5 gc5) := ⟨_, rfl⟩
  have HV5 : Hid (wn5.setCell ⟨W4.heap.size, 0, none⟩ (.slice ga5 gn5 gc5) = V5) := hV.symm
  have HC5 : Hid (CtI w.heap.size w.heap.size w2.heap.size W4.heap.size KC SC w V5 (.slice ga5 gn5 gc5) X5) := by rw [Hid, hV]; exact HC4.out.num h1 h2 hne1 hne2
  have ob5 := Boxed.cell (show Boxed wn5 W4.heap.size 28 (.slice ga4 gn4 gc4) from h2.k5.2 _ _ _ _ (by decide) HC4.out.obx)
  have fb5 := Boxed.frozen (show Boxed wn5 W4.heap.size 28 (.slice ga4 gn4 gc4) from h2.k5.2 _ _ _ _ (by decide) HC4.out.obx)
  have hV5 := HV5.out
  clear y0 y1 y2 y3 y4 y5 y6 y7 y8 y9 y10 s0 s1 s2 s3 s4 s5 s6 s7 oc h1 h2 hX hV
  have hkb : BoxK 53 V5 w.heap.size 6 (fn : Nat) (rn : Nat) (un : Nat) xp xn yp yn (.slice ia im ic) (an : Nat) (bn : Nat) := by rw [BoxK, ← HKC.out]; exact HC5.out.kbx
  obtain ⟨y0, y1, y2, y3, y4, y5, y6, y7, y8, y9, y10⟩ := hkb.cells
  have hsb : BoxS V5 w2.heap.size { data := #[112, 97, 105, 114] } false true false false false false true := by rw [BoxS, ← HSC.out]; exact HC5.out.sbx
  obtain ⟨s0, s1, s2, s3, s4, s5, s6, s7⟩ := hsb.cells
  have oc := Boxed.cell HC5.out.obx
  clear hkb hsb
  have HXE : Hid (X5 = wdK 6 ++ numsK 6 fn rn un an bn) := by rw [Hid, HX5.out, HX4.out, HX3.out, HX2.out]; simp [numsK, hasF, hasR, hasU, hasP, oW]
  gi_wp2_with fail
  refine (literals_inC _ V5).mono ?_
  rintro e w3 ⟨rfl, hw3⟩
  have hb3 : Below V5.heap.size V5 w3 := by rw [hw3]; exact (Below.refl _ _).alloc (Nat.le_refl _) _
  have HB3 : Hid (Below w.heap.size w w3) := HC5.out.bel.trans (hb3.mono (Nat.le_trans HC5.out.bas (Nat.le_of_lt (Boxed.lt HC5.out.obx))))
  have hs3 : V5.heap.size + 1 ≤ w3.heap.size := by rw [hw3]; simp
  have HBt : Hid (BoxK 53 w3 V5.heap.size 6 (fn : Nat) (rn : Nat) (un : Nat) xp xn yp yn (.slice ia im ic) (an : Nat) (bn : Nat)) := by unfold Hid; rw [hw3]; exact BoxK.new _ V5 _ _ _ _ _ _ _ _ _ _ _
  have hobl := Boxed.lt HC5.out.obx
  have hbas := HC5.out.bas
  have HI0 : Hid (InvC w.heap.size W4.heap.size w3.heap.size X5 w [] w3) := ⟨⟨(.slice ga5 gn5 gc5), boxed_below HC5.out.obx hb3 hobl, by simpa [litsT] using OwnB.below HC5.out.own hb3 (Nat.le_refl _)⟩, HB3.out, Nat.le_refl _, by omega⟩
  have HN : Hid ((litsL 0 (natP (six xp xn yp yn xs))).length ≤ 288) := by
    have := litsL_length (natP (six xp xn yp yn xs)) 0
    have e : (natP (six xp xn yp yn xs)).length = 6 := by simp [natP, six]
    rw [Hid]; omega
  have hn1 : w.heap.size ≤ w3.heap.size := HB3.out.size
  clear hb3 hw3 y0 y1 y2 y3 y4 y5 y6 y7 y8 y9 y10 s0 s1 s2 s3 s4 s5 s6 s7 oc
  gi_wp2_with fail
  refine wpIn_rangeFunc_ownH rfl (by omega) (gf := 83) (lb := #[.pointer (some ⟨V5.heap.size, 0, none⟩)]) rfl trivial (enters_of Tryz.func83 (by kernel_rfl) rfl)
    (lits_stops5 (lo := lo) (hi := hi) (B := w.heap.size) (n1 := w3.heap.size) 5 V5.heap.size hhi (by omega) hg HR.out HIm.out HPt.out HTb.out HB3.out (Nat.le_refl _) HBt.out) Kp5.trans
    (fun W l o o' hl hW hc _ => Kp5.putObj W l o o' (by omega) hW hc) (Below.refl _ _) (fun _ => rfl)
    (fun pre W => InvC w.heap.size W4.heap.size w3.heap.size X5 w (pre.map Subtype.val) W) (fun _ _ _ => False) (fun pre V V' row h hg hr => InvC.own (B := w3.heap.size) (by omega) (pre.map Subtype.val) V V' row h hg hr) (fun _ _ _ _ _ h _ _ => h)
    HI0.out
    (fun x => AxC w3.heap.size 98 (fun lv bx => #[.agg #[.int .i64 6, .int .i64 (fn : Nat), .int .i64 (rn : Nat), .int .i64 (un : Nat), .int .i64 xp, .int .i64 xn, .int .i64 yp, .int .i64 yn, .slice ia im ic, .int .i64 (an : Nat), .int .i64 (bn : Nat)], .pointer (some ⟨w.heap.size, 0, none⟩), .slice none 0 0, .pointer (some ⟨w2.heap.size, 0, none⟩), .bool true, .pointer (some ⟨W4.heap.size, 0, none⟩), bx, .agg #[.int .i64 6, .int .i64 (fn : Nat), .int .i64 (rn : Nat), .int .i64 (un : Nat), .int .i64 xp, .int .i64 xn, .int .i64 yp, .int .i64 yn, .slice ia im ic, .int .i64 (an : Nat), .int .i64 (bn : Nat)], .bool true, .bool false, .tuple #[.agg #[.string { data := #[112, 97, 105, 114] }, .bool false, .bool true, .bool false, .bool false, .bool false, .bool false, .bool true], .bool true], .pointer (some ⟨w.heap.size, 0, none⟩), .int .i64 6, .tuple #[.agg #[.string { data := #[112, 97, 105, 114] }, .bool false, .bool true, .bool false, .bool false, .bool false, .bool false, .bool true], .bool true], .agg #[.string { data := #[112, 97, 105, 114] }, .bool false, .bool true, .bool false, .bool false, .bool false, .bool false, .bool true], .bool true, .pointer (some ⟨w2.heap.size, 0, none⟩), .string { data := #[112, 97, 105, 114] }, .slice (some ⟨W3.heap.size, 0, none⟩) 4 cp, .pointer (some ⟨w2.heap.size, 1, none⟩), .bool false, undef, undef, undef, undef, .pointer (some ⟨w2.heap.size, 2, none⟩), .bool true, v2, .pointer (some ⟨w.heap.size, 2, none⟩), .int .i64 (rn : Nat), .slice ga3 gn3 gc3, .pointer (some ⟨w2.heap.size, 3, none⟩), .bool false, undef, undef, undef, undef, .pointer (some ⟨w2.heap.size, 7, none⟩), .bool true, .slice ga3 gn3 gc3, .pointer (some ⟨w.heap.size, 9, none⟩), .int .i64 (an : Nat), .slice ga4 gn4 gc4, .slice ga4 gn4 gc4, .pointer (some ⟨w.heap.size, 10, none⟩), .int .i64 (bn : Nat), .slice ga5 gn5 gc5, .agg #[.int .i64 6, .int .i64 (fn : Nat), .int .i64 (rn : Nat), .int .i64 (un : Nat), .int .i64 xp, .int .i64 xn, .int .i64 yp, .int .i64 yn, .slice ia im ic, .int .i64 (an : Nat), .int .i64 (bn : Nat)], .func (.func 83) #[] #[.pointer (some ⟨V5.heap.size, 0, none⟩)], lv, undef, undef, undef, undef]) x.1) (fun x => AxC.own x.1) ?assign ?body ?done ?stop
  case assign =>
    rintro l pre ⟨x, hx6, hx24⟩ W K hI hK
    unfold encL
    have hlt := hI.size
    gi_wp2_with fail
    have hB : Below W.heap.size W (W.alloc (.cells #[.int .i64 (x.place : Nat), .int .i64 (x.atom : Nat), .bool x.no] 98)) := (Below.refl _ _).alloc (Nat.le_refl _) _
    obtain ⟨⟨v, h1, h2⟩, h3, h4, h5⟩ := hI
    exact hK _ _ ((keepsOthers_below hB).from _) (Kp5.of_below hB h5) ⟨⟨v, h1.alloc _, own_allocT h2 _⟩, h3.alloc h5 _, Nat.le_trans h4 hB.size, Nat.le_trans h5 hB.size⟩
      ⟨W.heap.size, hlt, World.alloc_heap_new W _, rfl⟩
  case body => as_aux_lemma =>
    rintro l pre ⟨x, hx6, hx24⟩ a' W hl ⟨r', hr'⟩ hI ⟨Bx, hBx, hbox, rfl⟩ hlen
    have HMapA : Hid ((pre ++ [(⟨x, hx6, hx24⟩ : LX)]).map Subtype.val = pre.map Subtype.val ++ [x]) := by unfold Hid; rw [List.map_append]; rfl
    obtain ⟨pr, hpr⟩ : ∃ pr, pr = pre.map Subtype.val := ⟨_, rfl⟩
    have hI' : InvC w.heap.size W4.heap.size w3.heap.size X5 w pr W := by rw [hpr]; exact hI
    have HI : Hid (InvC w.heap.size W4.heap.size w3.heap.size X5 w pr W) := hI'
    rw [← hpr] at HMapA
    have hpl : pr.length ≤ 288 := by have := HN.out; rw [hpr, List.length_map]; omega
    obtain ⟨⟨v, hv, hO⟩, _, hsW, hbW⟩ := hI'
    obtain ⟨Y, hY⟩ : ∃ Y, Y = X5 ++ litsT pr := ⟨_, rfl⟩
    have HY : Hid (Y = X5 ++ litsT pr) := hY
    have HO : Hid (OwnB w.heap.size W v Y) := by rw [Hid, hY]; exact hO
    have hYl : Y.length ≤ 1000000 := by
      have h1 := litsT_len pr
      have h2 := HL5.out
      rw [hY, List.length_append]; omega
    have HV : Hid (Boxed W W4.heap.size 28 v) := hv
    have oc := Boxed.cell hv
    have l0 : W.cell? ⟨Bx, 0, none⟩ = some (.int .i64 (x.place : Nat)) := by simp [World.cell?, hbox]
    have l1 : W.cell? ⟨Bx, 1, none⟩ = some (.int .i64 (x.atom : Nat)) := by simp [World.cell?, hbox]
    have l2 : W.cell? ⟨Bx, 2, none⟩ = some (.bool x.no) := by simp [World.cell?, hbox]
    clear hI hO hpr hbox hr' hlen hY hv
    obtain ⟨pl, at', no⟩ := x
    simp only at hx6 hx24 l0 l1 l2
    cases no with
    | false =>
      gi_wp2_with fail
      refine ⟨trivial, (callsIn_wide.2 (addLiteral_pos pl at' hx6 hx24 HO.out hbW hYl)).mono ?_⟩
      rintro e W5 ⟨vv, rfl, h1, h2⟩
      obtain ⟨ga, gn, gc, rfl⟩ := OwnB.slice h1
      have HE : Hid (Y ++ [(32 : Int)] ++ digT at' ++ [markI pl] = X5 ++ litsT (pr ++ [⟨pl, at', false⟩])) := by rw [Hid, HY.out, litsT_append]; simp [litsT, litT, markI]
      rw [HE.out] at h1
      have hov : Boxed W5 W4.heap.size 28 v := h2.k5.2 _ _ _ _ (by decide) HV.out
      have HF : Hid (KeepsFrom w3.heap.size W (W5.setCell ⟨W4.heap.size, 0, none⟩ (.slice ga gn gc)) ∧ Kp5 w.heap.size w3.heap.size W (W5.setCell ⟨W4.heap.size, 0, none⟩ (.slice ga gn gc)) ∧ InvC w.heap.size W4.heap.size w3.heap.size X5 w (pr ++ [⟨pl, at', false⟩]) (W5.setCell ⟨W4.heap.size, 0, none⟩ (.slice ga gn gc))) := InvC.step HI.out (by omega) (by omega) HV.out h1 (by rw [← HY.out]; exact HO.out) h2
      have oc5 := Boxed.cell hov
      have fc5 := Boxed.frozen hov
      clear h1 h2 hov l0 l1 l2 oc
      gi_wp2_with fail
      rw [← HMapA.out] at HF
      exact HF.out
    | true =>
      gi_wp2_with fail
      refine ⟨trivial, (callsIn_wide.2 (addLiteral_neg pl at' hx6 hx24 HO.out hbW hYl)).mono ?_⟩
      rintro e W5 ⟨vv, rfl, h1, h2⟩
      obtain ⟨ga, gn, gc, rfl⟩ := OwnB.slice h1
      have HE : Hid (Y ++ dashW ++ digT at' ++ [markI pl] = X5 ++ litsT (pr ++ [⟨pl, at', true⟩])) := by rw [Hid, HY.out, litsT_append]; simp [litsT, litT, markI, dashW]
      rw [HE.out] at h1
      have hov : Boxed W5 W4.heap.size 28 v := h2.k5.2 _ _ _ _ (by decide) HV.out
      have HF : Hid (KeepsFrom w3.heap.size W (W5.setCell ⟨W4.heap.size, 0, none⟩ (.slice ga gn gc)) ∧ Kp5 w.heap.size w3.heap.size W (W5.setCell ⟨W4.heap.size, 0, none⟩ (.slice ga gn gc)) ∧ InvC w.heap.size W4.heap.size w3.heap.size X5 w (pr ++ [⟨pl, at', true⟩]) (W5.setCell ⟨W4.heap.size, 0, none⟩ (.slice ga gn gc))) := InvC.step HI.out (by omega) (by omega) HV.out h1 (by rw [← HY.out]; exact HO.out) h2
      have oc5 := Boxed.cell hov
      have fc5 := Boxed.frozen hov
      clear h1 h2 hov l0 l1 l2 oc
      gi_wp2_with fail
      rw [← HMapA.out] at HF
      exact HF.out
  case done =>
    rintro D ys' W hD hS hI hK
    obtain ⟨⟨v, hv, hO⟩, hbel, hsz, hbw⟩ := hI
    rw [show ys'.map Subtype.val = litsL 0 (natP (six xp xn yp yn xs)) from hS] at hO
    have HO : Hid (OwnB w.heap.size W v (X5 ++ litsT (litsL 0 (natP (six xp xn yp yn xs))))) := hO
    have HBel : Hid (Below w.heap.size w W) := hbel
    have HBw : Hid (w.heap.size ≤ W.heap.size) := hbw
    have HK4 : Hid (W.heap[D]? = some (.deferred (some []))) := hK
    have oc := Boxed.cell hv
    clear hO hbel hv hS hbw
    gi_wp2_with fail
    refine ⟨by simp, .inl ⟨_, _, rfl, run_takeDeferred HK4.out, ?_⟩⟩
    refine ⟨_, results_tmp rfl _ _ _, _, rfl, ?_, HBel.out.grown (grownBy_putObj' _ D _) HBw.out (fun k e => by cases e; omega)⟩
    rw [clT, ← HXE.out]
    refine OwnB.blk HO.out (fun b hb => World.putObj_heap_other (fun e => ?_))
    obtain ⟨c, f, hc⟩ := own_cells HO.out hb
    subst e
    rw [HK4.out] at hc
    cases hc
  case stop =>
    rintro D cd pre W hD hpre hI hK
    exact hI.elim
end

end Go.Proofs.YtknainelonaigaaGreatDoor
