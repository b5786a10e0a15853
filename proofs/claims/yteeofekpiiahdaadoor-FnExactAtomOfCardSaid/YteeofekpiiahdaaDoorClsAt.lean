/- The atom of a concept: the model's and the program's, a contract each. -/
import Derived.Test.YteeofekpiiahdaaDoorClsS3
import Derived.Test.YteeofekpiiahdaaDoorClsI3
namespace Go.Proofs.YteeofekpiiahdaaDoor
open Go.RowKit Go.Deep

/-- The place of a concept among the atoms; -1: there is none, or one of the two may not be. -/
def atomN (s : CS) (c : CN) : Int := if clsB s = true ∧ conOk c = true then placeC s.atoms c else -1
theorem atomN_yes {s : CS} {c : CN} (h1 : clsB s = true) (h2 : conOk c = true) : atomN s c = placeC s.atoms c := if_pos ⟨h1, h2⟩
theorem atomN_no1 {s : CS} {c : CN} (h1 : clsB s = false) : atomN s c = -1 := if_neg (by rw [h1]; simp)
theorem atomN_no2 {s : CS} {c : CN} (h2 : conOk c = false) : atomN s c = -1 := if_neg (by rw [h2]; simp)

theorem clsB_atoms {s : CS} (h : clsB s = true) : ∀ i, i < s.atoms.length → wfC (s.atoms.getD i CN.zero) = true := by
  unfold clsB at h
  simp only [Bool.and_eq_true] at h
  intro i hi
  have h1 := h.2.1
  unfold atomsB at h1
  rw [List.all_eq_true] at h1
  exact atomAt_wf (h1 i (List.mem_range.2 hi))

set_option maxRecDepth 100000 in
set_option maxHeartbeats 4000000 in
theorem implAtomOf_any {d : Nat} {aa : Option Addr} {an ac : Nat} {ra : Option Addr} {rn rc : Nat} {wa : Option Addr} {wn wc : Nat} {la : Option Addr} {ln lc : Nat} {s : CS} {w : World} {lo hi : Nat} {d' lo' hi' : Nat} {cv : Value} {c : CN} (h : RdS lo hi w d aa an ac ra rn rc wa wn wc la ln lc s) (hC : RdC lo' hi' w d' cv c) (hhi : hi ≤ w.heap.size) (hhi' : hi' ≤ w.heap.size) (hfit : bulks s.atoms ≤ 1048576 ∧ an ≤ 1048576) (hbk : c.bulk ≤ 1048576) (hT : TabD w) (hg : 2 < w.heap.size) :
    Calls Tryd.prog 13 #[.agg #[.slice aa an ac, .slice ra rn rc, .slice wa wn wc, .slice la ln lc], cv] w fun e w' => e = .returned (.int .i64 (atomN s c)) ∧ Below w.heap.size w w' := by
  obtain ⟨ck, cna, cnn, cnc, cra, crn, crc, cka, ckn, ckc, rfl⟩ := hC.shape
  obtain ⟨W, hW⟩ : ∃ W, W = (w.alloc (.cells #[.slice aa an ac, .slice ra rn rc, .slice wa wn wc, .slice la ln lc] 32)).alloc (.cells #[.int .i64 ck, .slice cna cnn cnc, .slice cra crn crc, .slice cka ckn ckc] 42) := ⟨_, rfl⟩
  have HW : Hid (W = (w.alloc (.cells #[.slice aa an ac, .slice ra rn rc, .slice wa wn wc, .slice la ln lc] 32)).alloc (.cells #[.int .i64 ck, .slice cna cnn cnc, .slice cra crn crc, .slice cka ckn ckc] 42)) := hW
  have hb0 : Below w.heap.size w W := by rw [hW]; exact ((Below.refl _ _).alloc (Nat.le_refl _) _).alloc (by simp) _
  have hs0 := hb0.size
  have hsb : Blk W w.heap.size 32 (.slice aa an ac) (.slice ra rn rc) (.slice wa wn wc) (.slice la ln lc) := by rw [hW]; exact (Blk.alloc_new w _ _ _ _ _ _ rfl).alloc _
  have hcb : BoxC W (w.heap.size + 1) (.int .i64 ck) (.slice cna cnn cnc) (.slice cra crn crc) (.slice cka ckn ckc) := by
    have e := BoxC.new (w.alloc (.cells #[.slice aa an ac, .slice ra rn rc, .slice wa wn wc, .slice la ln lc] 32)) (.int .i64 ck) (.slice cna cnn cnc) (.slice cra crn crc) (.slice cka ckn ckc)
    rw [World.size_alloc] at e
    rw [hW]; exact e
  have HS : Hid (∀ V, Below W.heap.size W V → Blk V w.heap.size 32 (.slice aa an ac) (.slice ra rn rc) (.slice wa wn wc) (.slice la ln lc)) := fun V hV => hsb.below hV hsb.lt
  have HCB : Hid (∀ V, Below W.heap.size W V → BoxC V (w.heap.size + 1) (.int .i64 ck) (.slice cna cnn cnc) (.slice cra crn crc) (.slice cka ckn ckc)) := fun V hV => hcb.below hV hcb.lt
  have HR : Hid (∀ V, Below W.heap.size W V → RdS lo hi V d aa an ac ra rn rc wa wn wc la ln lc s ∧ hi ≤ V.heap.size) := fun V hV => ⟨(h.below hb0 hhi).below hV (by omega), by have := hV.size; omega⟩
  have HC : Hid (∀ V, Below W.heap.size W V → RdC lo' hi' V d' (.agg #[.int .i64 ck, .slice cna cnn cnc, .slice cra crn crc, .slice cka ckn ckc]) c ∧ hi' ≤ V.heap.size) := fun V hV => ⟨(hC.below hb0 hhi').below hV (by omega), by have := hV.size; omega⟩
  have HF : Hid (∀ V, Below W.heap.size W V → Below w.heap.size w V) := fun V hV => hb0.trans (hV.mono hb0.size)
  have H0 : Hid (Below W.heap.size W W) := Below.refl _ _
  have HAn : Hid (s.atoms.length = an) := h.atoms.len
  have HFt : Hid (bulks s.atoms ≤ 1048576 ∧ an ≤ 1048576) := hfit
  have HCb : Hid (c.bulk ≤ 1048576) := hbk
  have hf1 := h.atoms.fits
  have HT : Hid (∀ V, Below W.heap.size W V → TabD V ∧ 2 < V.heap.size) := fun V hV => ⟨(hT.below hb0 hg).below hV (by omega), by have := hV.size; omega⟩
  obtain ⟨z0, z1, z2, z3, _⟩ := hsb.cells
  clear h hC hb0 hW hsb hcb hfit hT hbk
  go_enter Tryd.func13, Tryd.ntmps13
  go_upto_region 1 with fail
  rw [← HW.out]
  go_wp2_with fail
  refine (implClsOk_any (HR.out _ H0.out).1 (HR.out _ H0.out).2 HFt.out (HT.out _ H0.out).1 (HT.out _ H0.out).2).mono ?_
  rintro e w1 ⟨rfl, hb1⟩
  obtain ⟨v1, hv1⟩ : ∃ v, v = clsB s := ⟨_, rfl⟩
  rw [← hv1]
  have V1 : Hid (clsB s = v1) := hv1.symm
  have H1 : Hid (Below W.heap.size W w1) := hb1
  clear hb1 hv1 z0 z1 z2 z3
  obtain ⟨z0, z1, z2, z3, _⟩ := (HS.out _ H1.out).cells
  obtain ⟨y0, y1, y2, y3⟩ := (HCB.out _ H1.out).cells
  cases v1 with
  | false =>
    have HE : Hid (atomN s c = -1) := atomN_no1 V1.out
    go_wp2_with fail
    go_ret
    exact ⟨ri HE.out.symm, HF.out _ H1.out⟩
  | true =>
    go_wp2_with fail
    refine (implConOk_any (HC.out _ H1.out).1 (HC.out _ H1.out).2 HCb.out).mono ?_
    rintro e w2 ⟨rfl, hb2⟩
    obtain ⟨v2, hv2⟩ : ∃ v, v = conOk c := ⟨_, rfl⟩
    rw [← hv2]
    have V2 : Hid (conOk c = v2) := hv2.symm
    have H2 : Hid (Below W.heap.size W w2) := H1.out.trans (hb2.mono H1.out.size)
    clear hb2 hv2 z0 z1 z2 z3 y0 y1 y2 y3
    obtain ⟨z0, z1, z2, z3, _⟩ := (HS.out _ H2.out).cells
    obtain ⟨y0, y1, y2, y3⟩ := (HCB.out _ H2.out).cells
    cases v2 with
    | false =>
      have HE : Hid (atomN s c = -1) := atomN_no2 V2.out
      go_wp2_with fail
      go_ret
      exact ⟨ri HE.out.symm, HF.out _ H2.out⟩
    | true =>
      have HE : Hid (atomN s c = placeC s.atoms c) := atomN_yes V1.out V2.out
      go_wp2_with fail
      refine (conIn_any (HR.out _ H2.out).1.atoms (HC.out _ H2.out).1 (HR.out _ H2.out).2 (HC.out _ H2.out).2 HFt.out.2).mono ?_
      rintro e w3 ⟨rfl, hb3⟩
      rw [← HE.out]
      obtain ⟨p, hp⟩ : ∃ p, p = atomN s c := ⟨_, rfl⟩
      rw [← hp]
      have HP : Hid (p = atomN s c) := hp
      have H3 : Hid (Below W.heap.size W w3) := H2.out.trans (hb3.mono H2.out.size)
      clear hb3 hp
      go_wp2_with fail
      go_ret
      exact ⟨ri HP.out, HF.out _ H3.out⟩

set_option maxRecDepth 100000 in
set_option maxHeartbeats 4000000 in
theorem specAtomOf_any {d : Nat} {aa : Option Addr} {an ac : Nat} {ra : Option Addr} {rn rc : Nat} {wa : Option Addr} {wn wc : Nat} {la : Option Addr} {ln lc : Nat} {s : CS} {w : World} {lo hi : Nat} {d' lo' hi' : Nat} {cv : Value} {c : CN} (h : RdS lo hi w d aa an ac ra rn rc wa wn wc la ln lc s) (hC : RdC lo' hi' w d' cv c) (hhi : hi ≤ w.heap.size) (hhi' : hi' ≤ w.heap.size) (hfit : bulks s.atoms ≤ 1048576 ∧ an ≤ 1048576) (hbk : c.bulk ≤ 1048576) :
    Calls Tryd.prog 11 #[.agg #[.slice aa an ac, .slice ra rn rc, .slice wa wn wc, .slice la ln lc], cv] w fun e w' => e = .returned (.int .i64 (atomN s c)) ∧ Below w.heap.size w w' := by
  obtain ⟨ck, cna, cnn, cnc, cra, crn, crc, cka, ckn, ckc, rfl⟩ := hC.shape
  obtain ⟨W, hW⟩ : ∃ W, W = (w.alloc (.cells #[.slice aa an ac, .slice ra rn rc, .slice wa wn wc, .slice la ln lc] 32)).alloc (.cells #[.int .i64 ck, .slice cna cnn cnc, .slice cra crn crc, .slice cka ckn ckc] 42) := ⟨_, rfl⟩
  have HW : Hid (W = (w.alloc (.cells #[.slice aa an ac, .slice ra rn rc, .slice wa wn wc, .slice la ln lc] 32)).alloc (.cells #[.int .i64 ck, .slice cna cnn cnc, .slice cra crn crc, .slice cka ckn ckc] 42)) := hW
  have hb0 : Below w.heap.size w W := by rw [hW]; exact ((Below.refl _ _).alloc (Nat.le_refl _) _).alloc (by simp) _
  have hs0 := hb0.size
  have hsb : Blk W w.heap.size 32 (.slice aa an ac) (.slice ra rn rc) (.slice wa wn wc) (.slice la ln lc) := by rw [hW]; exact (Blk.alloc_new w _ _ _ _ _ _ rfl).alloc _
  have hcb : BoxC W (w.heap.size + 1) (.int .i64 ck) (.slice cna cnn cnc) (.slice cra crn crc) (.slice cka ckn ckc) := by
    have e := BoxC.new (w.alloc (.cells #[.slice aa an ac, .slice ra rn rc, .slice wa wn wc, .slice la ln lc] 32)) (.int .i64 ck) (.slice cna cnn cnc) (.slice cra crn crc) (.slice cka ckn ckc)
    rw [World.size_alloc] at e
    rw [hW]; exact e
  have HS : Hid (∀ V, Below W.heap.size W V → Blk V w.heap.size 32 (.slice aa an ac) (.slice ra rn rc) (.slice wa wn wc) (.slice la ln lc)) := fun V hV => hsb.below hV hsb.lt
  have HCB : Hid (∀ V, Below W.heap.size W V → BoxC V (w.heap.size + 1) (.int .i64 ck) (.slice cna cnn cnc) (.slice cra crn crc) (.slice cka ckn ckc)) := fun V hV => hcb.below hV hcb.lt
  have HR : Hid (∀ V, Below W.heap.size W V → RdS lo hi V d aa an ac ra rn rc wa wn wc la ln lc s ∧ hi ≤ V.heap.size) := fun V hV => ⟨(h.below hb0 hhi).below hV (by omega), by have := hV.size; omega⟩
  have HC : Hid (∀ V, Below W.heap.size W V → RdC lo' hi' V d' (.agg #[.int .i64 ck, .slice cna cnn cnc, .slice cra crn crc, .slice cka ckn ckc]) c ∧ hi' ≤ V.heap.size) := fun V hV => ⟨(hC.below hb0 hhi').below hV (by omega), by have := hV.size; omega⟩
  have HF : Hid (∀ V, Below W.heap.size W V → Below w.heap.size w V) := fun V hV => hb0.trans (hV.mono hb0.size)
  have H0 : Hid (Below W.heap.size W W) := Below.refl _ _
  have HAn : Hid (s.atoms.length = an) := h.atoms.len
  have HFt : Hid (bulks s.atoms ≤ 1048576 ∧ an ≤ 1048576) := hfit
  have HCb : Hid (c.bulk ≤ 1048576) := hbk
  have hf1 := h.atoms.fits
  obtain ⟨z0, z1, z2, z3, _⟩ := hsb.cells
  clear h hC hb0 hW hsb hcb hfit hbk
  go_enter Tryd.func11, Tryd.ntmps11
  go_upto_region 1 with fail
  rw [← HW.out]
  go_wp2_with fail
  refine (specClsOk_any (HR.out _ H0.out).1 (HR.out _ H0.out).2 HFt.out.1).mono ?_
  rintro e w1 ⟨rfl, hb1⟩
  obtain ⟨v1, hv1⟩ : ∃ v, v = clsB s := ⟨_, rfl⟩
  rw [← hv1]
  have V1 : Hid (clsB s = v1) := hv1.symm
  have H1 : Hid (Below W.heap.size W w1) := hb1
  clear hb1 hv1 z0 z1 z2 z3
  obtain ⟨z0, z1, z2, z3, _⟩ := (HS.out _ H1.out).cells
  obtain ⟨y0, y1, y2, y3⟩ := (HCB.out _ H1.out).cells
  cases v1 with
  | false =>
    have HE : Hid (atomN s c = -1) := atomN_no1 V1.out
    go_wp2_with fail
    go_ret
    exact ⟨ri HE.out.symm, HF.out _ H1.out⟩
  | true =>
    go_wp2_with fail
    refine (specConOk_any (HC.out _ H1.out).1 (HC.out _ H1.out).2).mono ?_
    rintro e w2 ⟨rfl, hb2⟩
    obtain ⟨v2, hv2⟩ : ∃ v, v = conOk c := ⟨_, rfl⟩
    rw [← hv2]
    have V2 : Hid (conOk c = v2) := hv2.symm
    have H2 : Hid (Below W.heap.size W w2) := H1.out.trans (hb2.mono H1.out.size)
    clear hb2 hv2 z0 z1 z2 z3 y0 y1 y2 y3
    obtain ⟨z0, z1, z2, z3, _⟩ := (HS.out _ H2.out).cells
    obtain ⟨y0, y1, y2, y3⟩ := (HCB.out _ H2.out).cells
    cases v2 with
    | false =>
      have HE : Hid (atomN s c = -1) := atomN_no2 V2.out
      go_wp2_with fail
      go_ret
      exact ⟨ri HE.out.symm, HF.out _ H2.out⟩
    | true =>
      have HE : Hid (atomN s c = placeC s.atoms c) := atomN_yes V1.out V2.out
      go_wp2_with fail
      go_loopw [5] (fun i wr => ∃ j : Nat, j ≤ an ∧ i = .int .i64 j ∧ noneC s.atoms c j ∧ Below W.heap.size W wr) (fun i _ => an - (intOf i).toNat)
      case atStart => exact ⟨0, Nat.zero_le _, rfl, noneC_zero _ _, H2.out⟩
      case round =>
        obtain ⟨j, hj, rfl, hnone, hbel⟩ := hrel
        have HNo : Hid (noneC s.atoms c j) := hnone
        have HB : Hid (Below W.heap.size W wr) := hbel
        clear z0 z1 z2 z3 y0 y1 y2 y3
        obtain ⟨z0, z1, z2, z3, _⟩ := (HS.out _ hbel).cells
        obtain ⟨y0, y1, y2, y3⟩ := (HCB.out _ hbel).cells
        by_cases hlt : j < an
        · have hji : (j : Int) < (an : Int) := by omega
          have hjl : j < s.atoms.length := by rw [HAn.out]; exact hlt
          have hrl := (HR.out _ hbel).1.atoms
          rcases hrl.cells with e0 | ⟨ab, ao, e1, _, hab, hc⟩
          · omega
          · subst e1
            obtain ⟨o0, o1, o2, o3, r0, r1, r2, r3, hrd2⟩ := hc j hlt
            obtain ⟨ok, ona, onn, onc, ora, orn, orc, oka, okn, okc, rfl, rfl, rfl, rfl⟩ := hrd2.form4S
            have H4d : Hid (Below W.heap.size W wr.drew) := hbel.drew
            have HA : Hid (RdC lo hi wr.drew d (.agg #[.int .i64 ok, .slice ona onn onc, .slice ora orn orc, .slice oka okn okc]) (s.atoms.getD j CN.zero)) := hrd2.below (B := wr.heap.size) (Below.refl _ _).drew (HR.out _ hbel).2
            have HAb : Hid ((s.atoms.getD j CN.zero).bulk ≤ 1048576) := by unfold Hid; have := getD_bulk_le s.atoms j hjl; have := HFt.out; omega
            have HW1 : Hid (wfC (s.atoms.getD j CN.zero) = true) := clsB_atoms V1.out j hjl
            have HW2 : Hid (wfC c = true) := wfC_of_ok V2.out
            have hh4 : hi ≤ wr.drew.heap.size := (HR.out _ hbel).2
            have hh5 : hi' ≤ wr.drew.heap.size := (HC.out _ hbel).2
            obtain ⟨v4, hv4⟩ : ∃ v, v = sameC (s.atoms.getD j CN.zero) c := ⟨_, rfl⟩
            have V4 : Hid (sameC (s.atoms.getD j CN.zero) c = v4) := hv4.symm
            have hab' : ab < W.heap.size := Nat.lt_of_lt_of_le hab (HR.out _ H0.out).2
            have cv : ∀ V, Below W.heap.size W V → ∀ o, V.cell? ⟨ab, o, none⟩ = wr.cell? ⟨ab, o, none⟩ := fun V hV o => (hV.cell (p := ⟨ab, o, none⟩) hab').trans (hbel.cell (p := ⟨ab, o, none⟩) hab').symm
            have HSat : Hid (∀ V, Below W.heap.size W V → (V.cell? ⟨w.heap.size, 0, none⟩ = some (.slice (some ⟨ab, ao, none⟩) an ac) ∧ V.cell? ⟨w.heap.size, 1, none⟩ = some (.slice ra rn rc) ∧ V.cell? ⟨w.heap.size, 2, none⟩ = some (.slice wa wn wc) ∧ V.cell? ⟨w.heap.size, 3, none⟩ = some (.slice la ln lc)) ∧ (V.cell? ⟨w.heap.size + 1, 0, none⟩ = some (.int .i64 ck) ∧ V.cell? ⟨w.heap.size + 1, 1, none⟩ = some (.slice cna cnn cnc) ∧ V.cell? ⟨w.heap.size + 1, 2, none⟩ = some (.slice cra crn crc) ∧ V.cell? ⟨w.heap.size + 1, 3, none⟩ = some (.slice cka ckn ckc)) ∧ (V.cell? ⟨ab, ao + j * 4, none⟩ = some (.int .i64 ok) ∧ V.cell? ⟨ab, ao + j * 4 + 1, none⟩ = some (.slice ona onn onc) ∧ V.cell? ⟨ab, ao + j * 4 + 2, none⟩ = some (.slice ora orn orc) ∧ V.cell? ⟨ab, ao + j * 4 + 3, none⟩ = some (.slice oka okn okc))) := fun V hV => by
              obtain ⟨x0, x1, x2, x3, _⟩ := (HS.out _ hV).cells
              obtain ⟨u0, u1, u2, u3⟩ := (HCB.out _ hV).cells
              exact ⟨⟨x0, x1, x2, x3⟩, ⟨u0, u1, u2, u3⟩, (cv V hV _).trans r0, (cv V hV _).trans r1, (cv V hV _).trans r2, (cv V hV _).trans r3⟩
            clear hrl hc hrd2 hnone hbel hv4 cv hab
            go_upto_region 6 with fail
            go_region_held3 (fun V => (V.cell? ⟨w.heap.size, 0, none⟩ = some (.slice (some ⟨ab, ao, none⟩) an ac) ∧ V.cell? ⟨w.heap.size, 1, none⟩ = some (.slice ra rn rc) ∧ V.cell? ⟨w.heap.size, 2, none⟩ = some (.slice wa wn wc) ∧ V.cell? ⟨w.heap.size, 3, none⟩ = some (.slice la ln lc)) ∧ (V.cell? ⟨w.heap.size + 1, 0, none⟩ = some (.int .i64 ck) ∧ V.cell? ⟨w.heap.size + 1, 1, none⟩ = some (.slice cna cnn cnc) ∧ V.cell? ⟨w.heap.size + 1, 2, none⟩ = some (.slice cra crn crc) ∧ V.cell? ⟨w.heap.size + 1, 3, none⟩ = some (.slice cka ckn ckc)) ∧ (V.cell? ⟨ab, ao + j * 4, none⟩ = some (.int .i64 ok) ∧ V.cell? ⟨ab, ao + j * 4 + 1, none⟩ = some (.slice ona onn onc) ∧ V.cell? ⟨ab, ao + j * 4 + 2, none⟩ = some (.slice ora orn orc) ∧ V.cell? ⟨ab, ao + j * 4 + 3, none⟩ = some (.slice oka okn okc))) (first | with_reducible exact HSat.out _ H5.out | with_reducible exact HSat.out _ H4d.out) (first
              | (go_at_call 20; refine (l2same_any HA.out (HC.out _ H4d.out).1 hh4 hh5 HAb.out HCb.out HW1.out HW2.out).mono ?_; rintro e w5 ⟨rfl, hb5⟩; rw [V4.out]; have H5 : Hid (Below W.heap.size W w5) := H4d.out.trans (hb5.mono H4d.out.size); clear hb5))
            all_goals
              cases v4 with
              | true =>
                have HE' : Hid (atomN s c = (j : Int)) := by unfold Hid; rw [HE.out]; exact placeC_some hjl V4.out HNo.out
                go_wp2_with fail
                go_ret
                exact ⟨ri HE'.out.symm, HF.out _ H5.out⟩
              | false =>
                have HN : Hid (noneC s.atoms c (j + 1)) := noneC_succ HNo.out V4.out
                go_wp2_with fail
                go_roundw
                case rel => exact ⟨j + 1, by omega, by go_num, HN.out, H5.out⟩
                case measure => simp [intOf]; omega
        · have HE' : Hid (atomN s c = -1) := by unfold Hid; rw [HE.out]; exact placeC_none (by rw [HAn.out, show an = j by omega]; exact HNo.out)
          clear hnone hbel
          go_wp2_with fail
          go_ret
          exact ⟨ri HE'.out.symm, HF.out _ HB.out⟩

end Go.Proofs.YteeofekpiiahdaaDoor
