/- The program's look at the classes of an order: a contract. -/
import Derived.Test.YtpedjcabapldgaaDoorOrdM
import Derived.Deep.DeepCutAuto
namespace Go.Proofs.YtpedjcabapldgaaDoor
open Go.RowKit Go.Maps

set_option maxRecDepth 100000 in
set_option maxHeartbeats 1000000 in
theorem setAdd_big {b : Nat} {L : List (List Int)} {zs : List Int} {w : World} (h : WSet w b L) (hz : Byt zs) (hn : zs.length ≤ 9223372036854775807) (hl : L.length ≤ 1073741824) :
    Calls Tryd.prog 41 #[.map (some b), .string (strOfNums zs)] w fun e w' => e = .returned (.bool (decide (zs ∉ L))) ∧ WSet w' b (insW L zs) ∧ w.grownBy w' (some b) := by
  obtain ⟨D, hown, hhas, hsz, hgood⟩ := h
  have hT := hown.tidy lawStr
  have hkey := keyW hn
  have HP : Hid (∀ (w' : World) (n : Nat), w'.ownsMap Tryd.prog 9 unitElem b n (D.put (litW zs) (.agg [])) → WSet w' b (insW L zs) ∧ size (D.put (litW zs) (.agg [])) = (insW L zs).length) := fun w' n h0 => wset_put h0 hT hhas hsz hgood hz
  have HN : Hid (L.length < (insW L zs).length ↔ zs ∉ L) := by
    by_cases hm : zs ∈ L
    · unfold Hid; rw [insW_old hz hgood.srt hgood.byt hm]; simp [hm]
    · unfold Hid; rw [insW_new hz hgood.srt hgood.byt hm]; simp [hm]
  obtain ⟨s, hs⟩ : ∃ s, s = strOfNums zs := ⟨_, rfl⟩
  rw [← hs] at hkey ⊢
  clear hs hhas hT
  go_enter Tryd.func41, Tryd.ntmps41
  go_wp2_with (first
    | (at_len; refine wpList_len_own _ rfl _ 65 rfl 9 69 Tryd.undSet unitElem b L.length D rfl hown ?_)
    | (at_mapUpdate; refine wpList_mapUpdate_own _ rfl _ _ _ 65 rfl 9 69 lawStr Tryd.undSet unitElem b L.length D rfl hown (by unfold maxLen; omega) _ _ _ rfl rfl hkey (.agg []) [] unitElem_mk ?_; intro w1 hown1 hgrow1)
    | (at_len; refine wpList_len_own _ rfl _ 65 rfl 9 69 Tryd.undSet unitElem b (L.length + 1) (D.put (litW zs) (.agg [])) rfl hown1 ?_)
    | go_in)
  go_ret
  obtain ⟨h1, h2⟩ := HP.out _ _ hown1
  refine ⟨rb ?_, h1, hgrow1⟩
  rw [h2]
  exact decide_eq_decide.2 HN.out

theorem insW_le {l : List (List Int)} {wd : List Int} (hw : Byt wd) (hg : Good l) : (insW l wd).length ≤ l.length + 1 := by
  by_cases h : wd ∈ l
  · rw [insW_old hw hg.srt hg.byt h]; omega
  · rw [insW_new hw hg.srt hg.byt h]; exact Nat.le_refl _

/-- Words so far, all of them in the set. -/
structure InvC (w : World) (L : List (List Int)) (wr : World) : Prop where
  set : ∃ S, WSet wr w.heap.size S ∧ (∀ z, z ∈ S ↔ z ∈ L) ∧ S.length ≤ L.length
  fine : Fine L
  bel : Below w.heap.size w wr

theorem InvC.step {w : World} {L : List (List Int)} {wr wr' : World} {S : List (List Int)} {z : List Int} (h : InvC w L wr) (hs : WSet wr w.heap.size S) (hm : ∀ z, z ∈ S ↔ z ∈ L) (hl : S.length ≤ L.length) (hz : Byt z) (hu : upOk z = true) (hn : z ∉ L) (h1 : WSet wr' w.heap.size (insW S z)) (hg : wr.grownBy wr' (some w.heap.size)) : InvC w (L ++ [z]) wr' := by
  refine ⟨⟨insW S z, h1, fun y => ?_, ?_⟩, fine_snoc.2 ⟨h.fine, hu, hn⟩, h.bel.grown hg (by have := hs.lt; omega) (fun k e => by cases e; exact Nat.le_refl _)⟩
  · rw [insW_mem hz hs.good.srt hs.good.byt, List.mem_append, List.mem_singleton, hm y]
    exact ⟨fun q => q.elim .inr .inl, fun q => q.elim .inr .inl⟩
  · rw [List.length_append]
    have := insW_le hz hs.good
    simp
    omega

set_option maxRecDepth 100000 in
set_option maxHeartbeats 4000000 in
theorem classesFit_any {a : Option Addr} {n cap : Nat} {xs : List (List (List Int))} {w : World} {lo hi : Nat} (h : RSSS lo hi w a n cap xs) (hhi : hi ≤ w.heap.size) (hbd : ∀ j, j < n → (xs.getD j []).length ≤ 1048576) :
    Calls Tryd.prog 30 #[.slice a n cap] w fun e w' => e = .returned (.bool (decide (n ≤ 7) && clsB xs)) ∧ Below w.heap.size w w' := by
  have HR : Hid (RSSS lo hi w a n cap xs) := h
  have HL : Hid (xs.length = n) := h.len
  have HBd : Hid (∀ j, j < n → (xs.getD j []).length ≤ 1048576) := hbd
  have hf := h.fits
  clear h hbd
  by_cases h7 : 7 < n
  · have HG : Hid (decide (n ≤ 7) = false) := decide_eq_false (by omega)
    have hg0 : (7 : Int) < (n : Int) := by omega
    go_enter Tryd.func30, Tryd.ntmps30
    go_wp2_with fail
    go_ret
    exact ⟨rb (by rw [HG.out]; rfl), Below.refl _ _⟩
  · have HG : Hid (decide (n ≤ 7) = true) := decide_eq_true (by omega)
    have hg0 : ¬ (7 : Int) < (n : Int) := by omega
    have hn7 : n ≤ 7 := by omega
    have hmk : (Instr.makeMap 65 none).run Tryd.prog w = .ok (.map (some w.heap.size)) (w.alloc (.map #[] 0)) := by simp [go_sem, Instr.makeMap]
    obtain ⟨W1, hW1⟩ : ∃ W1, W1 = w.alloc (.map #[] 0) := ⟨_, rfl⟩
    rw [← hW1] at hmk
    have HI0 : Hid (InvC w [] W1) := by
      unfold Hid
      refine ⟨⟨[], by rw [hW1]; exact WSet.made w, fun z => by simp, by simp⟩, Fine.nil, by rw [hW1]; exact (Below.refl _ _).alloc (Nat.le_refl _) _⟩
    clear hW1 h7
    go_enter Tryd.func30, Tryd.ntmps30
    go_upto_region 4 with fail
    clear hg0 hmk
    go_wp2_with fail
    go_loopw [14] (fun i wr => ∃ k : Nat, k ≤ n ∧ i = .int .i64 k ∧ InvC w (xs.take k).flatten wr ∧ (∀ j, j < k → (xs.getD j []).length ≠ 0)) (fun i _ => n - (intOf i).toNat)
    case atStart => exact ⟨0, Nat.zero_le _, rfl, by simpa using HI0.out, fun j hj => by omega⟩
    case round =>
      obtain ⟨k, hk, rfl, hI, hne⟩ := hrel
      have HI : Hid (InvC w (xs.take k).flatten wr) := hI
      have HNe : Hid (∀ j, j < k → (xs.getD j []).length ≠ 0) := hne
      clear hI hne
      by_cases hlt : k < n
      · have hR := HR.out.below HI.out.bel hhi
        obtain ⟨b, off, rfl⟩ := hR.block (by omega)
        obtain ⟨ea, en, ec, c0, hr⟩ := hR.class hlt
        have HE : Hid (RSS lo hi wr ea en ec (xs.getD k [])) := hr
        have hki : (k : Int) < (n : Int) := by omega
        have HEn : Hid ((xs.getD k []).length = en) := hr.len
        have hef := hr.fits
        clear hR hr
        by_cases he0 : en = 0
        · have HF : Hid (clsB xs = false) := cls_empty (by rw [HL.out]; exact hlt) (by rw [HEn.out]; exact he0)
          have hz0 : ((en : Int) == 0) = true := by simp [he0]
          clear he0
          go_wp2_with fail
          go_ret
          exact ⟨rb (by rw [HF.out, Bool.and_false]), HI.out.bel⟩
        · have hz0 : ((en : Int) == 0) = false := by simp; omega
          have HE0 : Hid (en ≠ 0) := he0
          have HBk : Hid (en ≤ 1048576) := by have := HBd.out k hlt; rw [HEn.out] at this; exact this
          have HFl : Hid ((xs.take k).flatten.length ≤ k * 1048576) := flat_len k (by rw [HL.out]; omega) (fun j hj => HBd.out j (by omega))
          clear he0
          go_wp2_with fail
          clear hz0 c0
          rename World => wo
          go_loopw [23] (fun i wr => ∃ j : Nat, j ≤ en ∧ i = .int .i64 j ∧ InvC w ((xs.take k).flatten ++ (xs.getD k []).take j) wr) (fun i _ => en - (intOf i).toNat)
          case atStart => exact ⟨0, Nat.zero_le _, rfl, by simpa using HI.out⟩
          case round =>
            obtain ⟨j, hj, rfl, hJ⟩ := hrel
            have HJ : Hid (InvC w ((xs.take k).flatten ++ (xs.getD k []).take j) wr) := hJ
            clear hJ
            by_cases hlj : j < en
            · obtain ⟨S, hS, hSm, hSl⟩ := HJ.out.set
              have HS : Hid (WSet wr w.heap.size S) := hS
              have HSm : Hid (∀ z, z ∈ S ↔ z ∈ (xs.take k).flatten ++ (xs.getD k []).take j) := hSm
              have HSl : Hid (S.length ≤ ((xs.take k).flatten ++ (xs.getD k []).take j).length) := hSl
              have HSb : Hid (S.length ≤ 1073741824) := by
                have h1 := HFl.out
                have h2 := HBk.out
                rw [List.length_append, List.length_take] at hSl
                unfold Hid
                omega
              have hE1 : RSS lo hi wr ea en ec (xs.getD k []) := HE.out.same (fun b h1 h2 => (HJ.out.bel.block b (by omega)).trans (HI.out.bel.block b (by omega)).symm)
              obtain ⟨b2, off2, rfl⟩ := hE1.block (by omega)
              obtain ⟨za, zn, zc, c1, hz⟩ := hE1.word hlj
              obtain ⟨z, hzz⟩ : ∃ z, z = (xs.getD k []).getD j [] := ⟨_, rfl⟩
              rw [← hzz] at hz
              have HZ : Hid (Rd lo hi wr za zn zc z) := hz
              have hconv := conv_any hz
              have hji : (j : Int) < (en : Int) := by omega
              have HBad : Hid (¬ Fine ((xs.take k).flatten ++ (xs.getD k []).take j ++ [z]) → clsB xs = false) := fun q => cls_word (by rw [HL.out]; exact hlt) (by rw [HEn.out]; exact hlj) (by rw [← hzz]; exact q)
              have HTk : Hid ((xs.getD k []).take (j + 1) = (xs.getD k []).take j ++ [z]) := by rw [Hid, hzz]; exact take_one (by rw [HEn.out]; exact hlj)
              have HC : Hid (z.length ≤ 9223372036854775807) := by have := hz.len; have := hz.fits; unfold Hid; omega
              clear hS hSm hSl hE1 hz hzz
              cases hok : upOk z
              · have HOk : Hid (upOk z = false) := hok
                have HF : Hid (clsB xs = false) := HBad.out (fun q => by have := (fine_snoc.1 q).2.1; rw [hok] at this; cases this)
                clear hok hconv
                go_wp2_with (first | (go_at_call 40; refine (implUpperOk_any za zn zc z _ HZ.out).mono ?_; rintro e w5 ⟨rfl, hw5⟩; rw [hw5, HOk.out]; clear hw5))
                go_ret
                exact ⟨rb (by rw [HF.out, Bool.and_false]), HJ.out.bel⟩
              · have HOk : Hid (upOk z = true) := hok
                clear hok
                by_cases hin : z ∈ S
                · have HIn : Hid (decide (z ∉ S) = false) := decide_eq_false (fun q => q hin)
                  have HF : Hid (clsB xs = false) := HBad.out (fun q => (fine_snoc.1 q).2.2 ((HSm.out z).1 hin))
                  clear hin
                  go_wp2_with (first | (go_at_call 40; refine (implUpperOk_any za zn zc z _ HZ.out).mono ?_; rintro e w5 ⟨rfl, hw5⟩; rw [hw5, HOk.out]; clear hw5) | (go_at_call 41; refine (setAdd_big HS.out HZ.out.byte HC.out HSb.out).mono ?_; rintro e w6 ⟨rfl, hw6, hg6⟩; rw [HIn.out]; have HB6 : Hid (Below w.heap.size w w6) := HJ.out.bel.grown hg6 (by have := HS.out.lt; omega) (fun q e => by cases e; exact Nat.le_refl _); clear hw6 hg6))
                  go_ret
                  exact ⟨rb (by rw [HF.out, Bool.and_false]), HB6.out⟩
                · have HIn : Hid (decide (z ∉ S) = true) := decide_eq_true hin
                  have HNi : Hid (z ∉ (xs.take k).flatten ++ (xs.getD k []).take j) := fun q => hin ((HSm.out z).2 q)
                  clear hin
                  go_wp2_with (first | (go_at_call 40; refine (implUpperOk_any za zn zc z _ HZ.out).mono ?_; rintro e w5 ⟨rfl, hw5⟩; rw [hw5, HOk.out]; clear hw5) | (go_at_call 41; refine (setAdd_big HS.out HZ.out.byte HC.out HSb.out).mono ?_; rintro e w6 ⟨rfl, hw6, hg6⟩; rw [HIn.out]; have HJ6 : Hid (InvC w ((xs.take k).flatten ++ (xs.getD k []).take j ++ [z]) w6) := HJ.out.step HS.out HSm.out HSl.out HZ.out.byte HOk.out HNi.out hw6 hg6; clear hw6 hg6))
                  go_roundw
                  case rel => exact ⟨j + 1, by omega, by go_num, by rw [HTk.out, ← List.append_assoc]; exact HJ6.out⟩
                  case measure => simp [intOf]; omega
            · have hje : j = en := by omega
              subst hje
              have HJ2 : Hid (InvC w (xs.take (k + 1)).flatten wr) := by
                unfold Hid
                rw [take_flat (by rw [HL.out]; exact hlt)]
                have := HJ.out
                rwa [← HEn.out, List.take_length] at this
              go_wp2_with fail
              go_roundw
              case rel => exact ⟨k + 1, by omega, by go_num, HJ2.out, fun i hi => by
                by_cases hik : i < k
                · exact HNe.out i hik
                · obtain rfl : i = k := by omega
                  rw [HEn.out]; exact HE0.out⟩
              case measure => simp [intOf]; omega
      · have hkn : k = n := by omega
        have HF : Hid (clsB xs = true) := cls_good HL.out (fun i hi => HNe.out i (by omega)) (by have := HI.out.fine; rwa [hkn] at this)
        clear hkn
        go_wp2_with fail
        go_ret
        exact ⟨rb (by rw [HG.out, HF.out]; rfl), HI.out.bel⟩

end Go.Proofs.YtpedjcabapldgaaDoor
