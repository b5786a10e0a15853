/- The program's list of the words of a set, each in memory of its own; the specification's copy of a list of words. -/
import Derived.Test.YtoeoddfhofcpcaaGreatKbAsc
namespace Go.Proofs.YtoeoddfhofcpcaaGreat
open Go.RowKit Go.Maps Go.Shelf

theorem bytes_rowG (w : World) (zs : List Int) (hz : Byt zs) : RowG (Lib.bytesWorld w 5 (strOfNums zs)) w.heap.size (grownCap w zs.length 0 5) zs := by
  have hsz : (strOfNums zs).size = zs.length := strOfNums_size zs
  have hnew := Lib.bytesWorld_at_new w 5 (strOfNums zs)
  have hcs : (Lib.bytesCells w 5 (strOfNums zs)).size = zs.length + (grownCap w zs.length 0 5 - zs.length) := by
    unfold Lib.bytesCells
    rw [hsz, Array.size_append, Array.size_map, Array.size_replicate]
    congr 1
  refine ⟨⟨_, _, hnew, ?_, fun i hi => ?_⟩, fun i hi => ?_⟩
  · exact grownCap_ge w zs.length 0 5
  · have hc := Lib.bytesWorld_cell w 5 (strOfNums zs) i (by rw [hsz]; exact hi)
    simp only [World.cell?, hnew, Option.isSome_none, Bool.false_eq_true, if_false] at hc
    rw [hc]
    congr 2
    have hb := hz i
    have e : (strOfNums zs).data.toList.getD i 0 = UInt8.ofNat (zs.getD i 0).toNat := by
      rw [strOfNums_data]
      simp [List.getD, hi]
    rw [e]
    simp only [UInt8.toNat_ofNat']
    omega
  · simp only [World.frozen?, hnew]
    simp
    rw [hcs]
    omega

theorem bytes_below (w : World) (s : ByteArray) : Below w.heap.size w (Lib.bytesWorld w 5 s) := by
  refine ⟨rfl, rfl, rfl, by rw [Lib.bytesWorld_size]; omega, fun k hk => Lib.bytesWorld_at_old w 5 s k hk⟩

set_option maxRecDepth 100000 in
set_option maxHeartbeats 2000000 in
theorem ascTexts_any {b : Nat} {L : List (List Int)} {w : World} (h : WSet w b L) (hl : L.length ≤ 1000) (hz : ∀ i, (L.getD i []).length ≤ 1000) :
    Calls Tryz.prog 38 #[.map (some b)] w fun e w' => ∃ v gs, e = .returned v ∧ OwnW w.heap.size w' v L gs ∧ Below w.heap.size w w' := by
  have HW : Hid (WSet w b L) := h
  have HG : Hid (Good L) := h.good
  have HZ : Hid (∀ i, (L.getD i []).length ≤ 1000) := hz
  obtain ⟨i0, hi0, hz0, hz1, hz2⟩ := info_parts Tryz.infoBS
  have und9 : Tryz.prog.underlying 9 = some .string := Tryz.undStr
  clear h hz
  go_enter Tryz.func38, Tryz.ntmps38
  go_wp2_with fail
  refine (ascending_any HW.out (by omega)).mono ?_
  rintro e w1 ⟨sv, rfl, hrow, hb1⟩
  obtain ⟨n, hn⟩ : ∃ n, n = L.length := ⟨_, rfl⟩
  have HN : Hid (n = L.length) := hn
  obtain ⟨sa, scap, rfl, hsc, hcell⟩ : ∃ sa scap, sv = .slice sa n scap ∧ (n ≤ scap ∧ scap ≤ 9223372036854775807) ∧ (n = 0 ∨ ∃ sb, sa = some ⟨sb, 0, none⟩ ∧ sb < w1.heap.size ∧ ∀ i, i < n → w1.cell? ⟨sb, i, none⟩ = some (.string (strOfNums (L.getD i [])))) := by
    rcases hrow.2 with ⟨rfl, h0⟩ | ⟨g, cap, cur, rfl, hg, hb, hn', hc, hs, ht⟩
    · exact ⟨none, 0, by rw [hn, h0], by omega, .inl (by omega)⟩
    · refine ⟨_, _, by rw [hn], by unfold maxLen at hc; omega, .inr ⟨g, rfl, (Array.getElem?_eq_some_iff.1 hb).1, fun i hi => ?_⟩⟩
      have e : (L.map fun z => Value.string (strOfNums z))[i]? = some (.string (strOfNums (L.getD i []))) := by
        have : i < L.length := by omega
        simp [List.getD, this]
      rw [← ht, List.getElem?_take_of_lt (by omega)] at e
      simp only [Array.getElem?_toList] at e
      simp [World.cell?, hb, e]
  have HC : Hid (n = 0 ∨ ∃ sb, sa = some ⟨sb, 0, none⟩ ∧ sb < w1.heap.size ∧ ∀ i, i < n → w1.cell? ⟨sb, i, none⟩ = some (.string (strOfNums (L.getD i [])))) := hcell
  have HB1 : Hid (Below w.heap.size w w1) := hb1
  have hn1 : n ≤ 1000 := by omega
  clear hrow hb1 hcell hn
  go_wp2_with fail
  go_loopw [3, 9] (fun u i wr => ∃ (j : Nat) (ov : Value) (gs : List (Nat × Nat)), j ≤ n ∧ i = .int .i64 j ∧ ov = u ∧ OwnW w1.heap.size wr ov (L.take j) gs ∧ Below w1.heap.size w1 wr) (fun _ i _ => n - (intOf i).toNat)
  case atStart => exact ⟨0, _, [], Nat.zero_le _, rfl, rfl, OwnW.nil _ _, Below.refl _ _⟩
  case round =>
    obtain ⟨j, ov, gs, hj, rfl, rfl, hO, hbel⟩ := hrel
    have HO : Hid (OwnW w1.heap.size wr ov (L.take j) gs) := hO
    have HB : Hid (Below w1.heap.size w1 wr) := hbel
    have hs1 := hbel.size
    by_cases hlt : j < n
    · rcases HC.out with hz | ⟨sb, e1, hsb, hc⟩
      · omega
      · subst e1
        have hjl : j < L.length := by rw [← HN.out]; exact hlt
        have c0 : wr.cell? ⟨sb, j, none⟩ = some (.string (strOfNums (L.getD j []))) := (hbel.cell (p := ⟨sb, j, none⟩) hsb).trans (hc j hlt)
        have hcv := Lib.run_convert_string_bytes (P := Tryz.prog) wr 9 25 5 (strOfNums (L.getD j [])) und9 Tryz.underlying25 Tryz.underlying5
        rw [strOfNums_size] at hcv
        have hby : Byt (L.getD j []) := HG.out.byt _ (by rw [List.getD_eq_getElem?_getD, List.getElem?_eq_getElem hjl]; exact List.getElem_mem hjl)
        have hrg := bytes_rowG wr (L.getD j []) hby
        have hbb := bytes_below wr (strOfNums (L.getD j []))
        have hzj := HZ.out j
        have HT : Hid (L.take (j + 1) = L.take j ++ [L.getD j []]) := take_succ_getD L [] j hjl
        have HJ : Hid ((L.take j).length = j) := by unfold Hid; rw [List.length_take]; omega
        obtain ⟨z, hzz⟩ : ∃ z, z = L.getD j [] := ⟨_, rfl⟩
        rw [← hzz] at c0 hcv hby hrg hbb hzj HT
        obtain ⟨gc, hgc⟩ : ∃ gc, gc = grownCap wr z.length 0 5 := ⟨_, rfl⟩
        have hgm : gc ≤ 9223372036854775807 := by rw [hgc]; have := grownCap_le_maxLen wr z.length 0 5 (by unfold maxLen; omega); unfold maxLen at this; omega
        rw [← hgc] at hcv hrg
        obtain ⟨W2, hW2⟩ : ∃ W2, W2 = Lib.bytesWorld wr 5 (strOfNums z) := ⟨_, rfl⟩
        rw [← hW2] at hcv hrg hbb
        have HRg : Hid (RowG W2 wr.heap.size gc z) := hrg
        have HBb : Hid (Below wr.heap.size wr W2) := hbb
        have HBy : Hid (Byt z) := hby
        have hs2 := hrg.lt
        obtain ⟨s, hs⟩ : ∃ s, s = strOfNums z := ⟨_, rfl⟩
        rw [← hs] at c0 hcv
        obtain ⟨zl, hzl⟩ : ∃ zl, zl = z.length := ⟨_, rfl⟩
        rw [← hzl] at hcv hzj
        have HZl : Hid (z.length = zl) := hzl.symm
        have HOr : Hid (W2.ownsRow w1.heap.size 25 1 ov j (List.zipWith wv (L.take j) gs)) := by have := (HO.out.below hbb).row; rw [HJ.out] at this; exact this
        have hji : (j : Int) < (n : Int) := by omega
        clear hO hbel hc hrg hbb hW2 hgc hs hzl hzz hby
        go_wp2_with (first | (at_builtin; refine wpList_append_own _ rfl (.tmp 13) (.tmp 16) 27 rfl w1.heap.size 25 i0 (.slice none 0 0) 1 24 Tryz.undBSS hi0 hz0 hz1 hz2 rfl (by decide) ov j (List.zipWith wv (L.take j) gs) rfl (HOr.out.alloc _) ⟨W2.heap.size, 0, none⟩ 1 1 [.slice (some ⟨wr.heap.size, 0, none⟩) zl gc] rfl rfl (cell_one_new _ _ _) (by simp [Value.oneCell']) (by unfold maxLen; omega) (by omega) (by simp; omega) ?_; intro v3 w3 hown3 hgrow3 hnil3) | fail)
        go_roundw
        case rel =>
          have hO2 : OwnW w1.heap.size (W2.alloc (.cells #[.slice (some ⟨wr.heap.size, 0, none⟩) zl gc] 25)) ov (L.take j) gs := (HO.out.below HBb.out).below ((Below.refl _ _).alloc (Nat.le_refl _) _)
          have hge := own_ge hO2.row
          have hb3 : Below w1.heap.size w1 w3 := ((HB.out.trans (HBb.out.mono hs1)).alloc (by omega) _).grown hgrow3 (by simp; omega) hge
          refine ⟨j + 1, v3, gs ++ [(wr.heap.size, gc)], by omega, by go_num, rfl, ?_, hb3⟩
          rw [HT.out]
          refine hO2.snoc z (wr.heap.size, gc) ⟨hs1, HRg.out.of_block (Below.heap_alloc _ _ _ hs2), hgm⟩ HBy.out (fun i hi e => ?_) (by rw [HJ.out]; show w3.ownsRow _ _ _ _ _ (_ ++ [.slice (some ⟨wr.heap.size, 0, none⟩) z.length gc]); rw [HZl.out]; exact hown3) hgrow3
          have := (HO.out.txt i hi).2.1.lt
          omega
        case measure => simp [intOf]; omega
    · have HE : Hid (L.take j = L) := List.take_of_length_le (by rw [← HN.out]; omega)
      clear hO hbel
      go_wp2_with fail
      go_ret
      exact ⟨ov, gs, rfl, by have := HO.out; rw [HE.out] at this; exact this.base HB1.out.size, HB1.out.trans (HB.out.mono HB1.out.size)⟩

theorem empty_row (w : World) (base : Nat) (hb : base ≤ w.heap.size) : (w.alloc (.cells #[] 5)).ownsRow base 5 1 (.slice (some ⟨w.heap.size, 0, none⟩) 0 0) 0 [] :=
  ⟨rfl, .inr ⟨w.heap.size, 0, #[], rfl, hb, World.alloc_heap_new w _, Nat.le_refl _, by unfold maxLen; omega, rfl, rfl⟩⟩

theorem ownB_rowG {base : Nat} {w : World} {v : Value} {zs : List Int} (h : w.ownsRow base 5 1 v zs.length (zs.map (Value.int .u8))) (hne : zs ≠ []) : ∃ g cap, v = wv zs (g, cap) ∧ base ≤ g ∧ RowG w g cap zs ∧ cap ≤ 9223372036854775807 := by
  rcases h.2 with ⟨_, h0⟩ | ⟨g, cap, cur, rfl, hg, hb, hn, hc, hs, ht⟩
  · exact absurd (List.eq_nil_of_length_eq_zero h0) hne
  · refine ⟨g, cap, rfl, hg, ⟨⟨cur, _, hb, hn, fun i hi => ?_⟩, fun i hi => by simp [World.frozen?, hb]⟩, by unfold maxLen at hc; omega⟩
    have e : (zs.map (Value.int .u8))[i]? = some (.int .u8 (zs.getD i 0)) := by simp [List.getD, hi]
    rw [← ht, List.getElem?_take_of_lt (by omega)] at e
    simpa using e

theorem fresh_word {base en : Nat} {w : World} {v : Value} {z : List Int} (hl : z.length = en) (hne : z ≠ []) (h : w.ownsRow base 5 1 v (0 + en) ([] ++ z.map (Value.int .u8))) : ∃ g cp, v = .slice (some ⟨g, 0, none⟩) en cp ∧ base ≤ g ∧ RowG w g cp z ∧ cp ≤ 9223372036854775807 := by
  rw [Nat.zero_add, List.nil_append, ← hl] at h
  obtain ⟨g, cp, h1, h2⟩ := ownB_rowG h hne
  exact ⟨g, cp, by rw [h1, ← hl]; rfl, h2⟩
theorem below_grownE {w W1 w2 : World} (h : Below w.heap.size w W1) (e : W1 = w.alloc (.cells #[] 5)) (hg : (w.alloc (.cells #[] 5)).grownBy w2 (Value.slice (some ⟨w.heap.size, 0, none⟩) 0 0).ownBlock) : Below w.heap.size w w2 := by
  rw [← e] at hg
  exact h.grown hg h.size (fun k hk => by cases hk; exact Nat.le_refl _)

set_option maxRecDepth 100000 in
set_option maxHeartbeats 2000000 in
theorem ownNames_any (a : Option Addr) (n cap : Nat) (L : List (List Int)) (w : World) {lo hi : Nat} (h : RSS lo hi w a n cap L) (hhi : hi ≤ w.heap.size) (hn : n ≤ 1000) (hz : ∀ i, (L.getD i []).length ≤ 1000) (hne : ∀ z ∈ L, z ≠ []) :
    Calls Tryz.prog 31 #[.slice a n cap] w fun e w' => ∃ v gs, e = .returned v ∧ OwnW w.heap.size w' v L gs ∧ Below w.heap.size w w' := by
  have HR : Hid (RSS lo hi w a n cap L) := h
  have HL : Hid (L.length = n) := h.len
  have hf := h.fits
  have HZ : Hid (∀ i, (L.getD i []).length ≤ 1000) := hz
  have HNe : Hid (∀ z ∈ L, z ≠ []) := hne
  obtain ⟨i0, hi0, hz0, hz1, hz2⟩ := info_parts Tryz.infoBS
  obtain ⟨j0, hj0, hy0, hy1, hy2⟩ := info_parts Tryz.info5
  clear h hz hne
  go_enter Tryz.func31, Tryz.ntmps31
  go_wp2_with fail
  go_loopw [3, 4] (fun u i wr => ∃ (j : Nat) (ov : Value) (gs : List (Nat × Nat)), j ≤ n ∧ i = .int .i64 j ∧ ov = u ∧ OwnW w.heap.size wr ov (L.take j) gs ∧ Below w.heap.size w wr) (fun _ i _ => n - (intOf i).toNat)
  case atStart => exact ⟨0, _, [], Nat.zero_le _, rfl, rfl, OwnW.nil _ _, Below.refl _ _⟩
  case round =>
    obtain ⟨j, ov, gs, hj, rfl, rfl, hO, hbel⟩ := hrel
    have HO : Hid (OwnW w.heap.size wr ov (L.take j) gs) := hO
    have HB : Hid (Below w.heap.size w wr) := hbel
    have hs1 := hbel.size
    by_cases hlt : j < n
    · have hR := HR.out.below hbel hhi
      rcases hR.cells with hz | ⟨b, off, e1, _, hbhi, hc⟩
      · omega
      · subst e1
        have hjl : j < L.length := by rw [HL.out]; exact hlt
        obtain ⟨v, c0, ea, en, ec, rfl, hr⟩ := hc j hlt
        have hmem : L.getD j [] ∈ L := by rw [List.getD_eq_getElem?_getD, List.getElem?_eq_getElem hjl]; exact List.getElem_mem hjl
        have hnej := HNe.out _ hmem
        have hzj := HZ.out j
        have HT : Hid (L.take (j + 1) = L.take j ++ [L.getD j []]) := take_succ_getD L [] j hjl
        have HJ : Hid ((L.take j).length = j) := by unfold Hid; rw [List.length_take]; omega
        obtain ⟨z, hzz⟩ : ∃ z, z = L.getD j [] := ⟨_, rfl⟩
        rw [← hzz] at hr hnej hzj HT
        have hzl := hr.len
        have hfe := hr.fits
        have HBy : Hid (Byt z) := hr.byte
        rcases hr.cells with h0 | ⟨be, oe, e2, hbe1, hbe2, hce⟩
        · exact absurd (List.eq_nil_of_length_eq_zero (by omega)) hnej
        · subst e2
          obtain ⟨W1, hW1⟩ : ∃ W1, W1 = wr.alloc (.cells #[] 5) := ⟨_, rfl⟩
          have HW1 : Hid (W1 = wr.alloc (.cells #[] 5)) := hW1
          have hb1 : Below wr.heap.size wr W1 := by rw [hW1]; exact (Below.refl _ _).alloc (Nat.le_refl _) _
          have HB1 : Hid (Below wr.heap.size wr W1) := hb1
          have HOe : Hid ((wr.alloc (.cells #[] 5)).ownsRow wr.heap.size 5 1 (.slice (some ⟨wr.heap.size, 0, none⟩) 0 0) 0 []) := empty_row wr _ (Nat.le_refl _)
          have HNews : Hid (∀ k u, (z.map (Value.int .u8))[k]? = some u → (wr.alloc (.cells #[] 5)).cell? ((⟨be, oe, none⟩ : Addr).add k) = some u) := by
            have hr1 : Rd lo hi (wr.alloc (.cells #[] 5)) (some ⟨be, oe, none⟩) en ec z := by
              rw [← hW1]; exact (show Rd lo hi wr (some ⟨be, oe, none⟩) en ec z from ⟨hzl, hfe, HBy.out, .inr ⟨be, oe, rfl, hbe1, hbe2, hce⟩⟩).below hb1 (by omega)
            exact rd_news hr1
          have HZm : Hid ((z.map (Value.int .u8)).length = en * 1) := by unfold Hid; rw [List.length_map, hzl]; omega
          have HZl : Hid (z.length = en) := hzl
          have hcb : b < wr.heap.size := by omega
          have hji : (j : Int) < (n : Int) := by omega
          have hen : en ≤ 1000 := by omega
          have HNz : Hid (z ≠ []) := hnej
          clear hR hc hr hO hbel hW1 hb1 hzz hmem hce hzl hnej hzj
          go_wp2_with (first
            | (at_builtin; refine wpList_append_own _ rfl (.tmp 12) (.tmp 16) 25 rfl wr.heap.size 5 j0 (.int .u8 0) 1 1 Tryz.underlying25 hj0 hy0 hy1 hy2 rfl (by decide) (.slice (some ⟨wr.heap.size, 0, none⟩) 0 0) 0 [] rfl HOe.out ⟨be, oe, none⟩ en ec (z.map (Value.int .u8)) rfl HZm.out HNews.out (oneCB _) (by unfold maxLen; omega) (by omega) (by simp) ?_; intro v2 w2 hown2 hgrow2 hnil2; have HF2 : Hid (∃ g cp, v2 = .slice (some ⟨g, 0, none⟩) en cp ∧ wr.heap.size ≤ g ∧ RowG w2 g cp z ∧ cp ≤ 9223372036854775807) := fresh_word HZl.out HNz.out hown2; have HB2 : Hid (Below wr.heap.size wr w2) := below_grownE HB1.out HW1.out hgrow2; obtain ⟨g, cp, hv2, hg2, hrg2, hcp2⟩ := HF2.out; subst hv2; have HRg : Hid (RowG w2 g cp z) := hrg2; have HOr : Hid (w2.ownsRow w.heap.size 25 1 ov j (List.zipWith wv (L.take j) gs)) := (by have := (HO.out.below HB2.out).row; rw [HJ.out] at this; exact this); have hs2 := HB2.out.size; have hgl := hrg2.lt; clear hown2 hgrow2 hnil2 hrg2)
            | (at_builtin; refine wpList_append_own _ rfl (.tmp 11) (.tmp 18) 27 rfl w.heap.size 25 i0 (.slice none 0 0) 1 24 Tryz.undBSS hi0 hz0 hz1 hz2 rfl (by decide) ov j (List.zipWith wv (L.take j) gs) rfl (HOr.out.alloc _) ⟨w2.heap.size, 0, none⟩ 1 1 [.slice (some ⟨g, 0, none⟩) en cp] rfl rfl (cell_one_new _ _ _) (by simp [Value.oneCell']) (by unfold maxLen; omega) (by omega) (by simp; omega) ?_; intro v3 w3 hown3 hgrow3 hnil3) | fail)
          go_roundw
          case rel =>
            have hO2 : OwnW w.heap.size (w2.alloc (.cells #[.slice (some ⟨g, 0, none⟩) en cp] 25)) ov (L.take j) gs := (HO.out.below HB2.out).below ((Below.refl _ _).alloc (Nat.le_refl _) _)
            have hge := own_ge hO2.row
            have hb3 : Below w.heap.size w w3 := ((HB.out.trans (HB2.out.mono hs1)).alloc (by omega) _).grown hgrow3 (by simp; omega) hge
            refine ⟨j + 1, v3, gs ++ [(g, cp)], by omega, by go_num, rfl, ?_, hb3⟩
            rw [HT.out]
            refine hO2.snoc z (g, cp) ⟨by show w.heap.size ≤ g; omega, HRg.out.of_block (Below.heap_alloc _ _ _ hgl), hcp2⟩ HBy.out (fun i hi e => ?_) (by rw [HJ.out]; show w3.ownsRow _ _ _ _ _ (_ ++ [.slice (some ⟨g, 0, none⟩) z.length cp]); rw [HZl.out]; exact hown3) hgrow3
            have := (HO.out.txt i hi).2.1.lt
            simp only at e
            omega
          case measure => simp [intOf]; omega
    · have HE : Hid (L.take j = L) := List.take_of_length_le (by rw [HL.out]; omega)
      clear hO hbel
      go_wp2_with fail
      go_ret
      exact ⟨ov, gs, rfl, by have := HO.out; rw [HE.out] at this; exact this, HB.out⟩

end Go.Proofs.YtoeoddfhofcpcaaGreat
