/- The specification's words of a concept and of all that is told. -/
import Derived.Test.YtckhjoancfbkfaaGreatKbVocM
import Derived.Maps.AppendAt
import Derived.Test.YtckhjoancfbkfaaGreatNG2
import Derived.Test.YtckhjoancfbkfaaGreatNG1
import Derived.RangeFuncBox
import Derived.Deep.RegionHeld3
import Derived.Deep.DeepCutAuto
namespace Go.Proofs.YtckhjoancfbkfaaGreat

section
open Go.RowKit

theorem Tryz.infoBS : (Tryz.prog.info? 22).map (fun i => (i.zero, i.size, i.bytes)) = some (some (.slice none 0 0), 1, 24) := by kernel_rfl
theorem Tryz.undBSS : Tryz.prog.underlying 42 = some (.slice 22) := by kernel_rfl

/-- A row of the call's own, of words that lie elsewhere. -/
def RW (base lo hi : Nat) (w : World) (v : Value) (L : List (List Int)) : Prop := ∃ xs, w.ownsRow base 22 1 v L.length xs ∧ ∀ i, i < L.length → SlB lo hi w (xs.getD i undef) (L.getD i [])

theorem RW.nil (base lo hi : Nat) (w : World) : RW base lo hi w (.slice none 0 0) [] := ⟨[], ⟨rfl, .inl ⟨rfl, rfl⟩⟩, fun i hi => absurd hi (by simp)⟩

theorem RW.slice {base lo hi : Nat} {w : World} {v : Value} {L : List (List Int)} (h : RW base lo hi w v L) (h1 : lo ≤ base) (h2 : hi ≤ w.heap.size) : ∃ a cap, v = .slice a L.length cap ∧ RSS lo w.heap.size w a L.length cap L := by
  obtain ⟨xs, ⟨hl, hx⟩, hr⟩ := h
  rcases hx with ⟨rfl, h0⟩ | ⟨g, cap, cur, rfl, hg, hb, hn, hc, hs, ht⟩
  · refine ⟨none, 0, by rw [h0], ⟨rfl, ⟨by omega, by omega⟩, .inl h0⟩⟩
  · refine ⟨_, _, rfl, ⟨rfl, ⟨hn, by unfold maxLen at hc; omega⟩, .inr ⟨g, 0, rfl, by omega, (Array.getElem?_eq_some_iff.1 hb).1, fun i hi => ⟨xs.getD i undef, ?_, (hr i hi).mono (Nat.le_refl _) h2⟩⟩⟩⟩
    have hi' : i < cur.size := by omega
    have e : xs[i]? = some cur[i] := by
      rw [← ht, List.getElem?_take_of_lt (by omega)]
      simp [hi']
    rw [Nat.zero_add]
    simp [World.cell?, hb, List.getD, e]

theorem RW.word {base lo hi : Nat} {w w' : World} {v' : Value} {L : List (List Int)} {wd : List Int} {x : Value} {xs : List Value} (h : ∀ i, i < L.length → SlB lo hi w (xs.getD i undef) (L.getD i [])) (hl : xs.length = L.length) (hx : SlB lo hi w x wd) (hs : Same lo hi w w')
    (ho : w'.ownsRow base 22 1 v' (L.length + 1) (xs ++ [x])) : RW base lo hi w' v' (L ++ [wd]) := by
  refine ⟨xs ++ [x], by rw [List.length_append]; exact ho, fun i hi => ?_⟩
  by_cases e : i < L.length
  · have e1 : (xs ++ [x]).getD i undef = xs.getD i undef := by simp [List.getD, List.getElem?_append_left (show i < xs.length by omega)]
    have e2 : (L ++ [wd]).getD i [] = L.getD i [] := by simp [List.getD, List.getElem?_append_left e]
    rw [e1, e2]
    exact (h i e).same hs
  · have ei : i = L.length := by simp at hi; omega
    subst ei
    have e1 : (xs ++ [x]).getD L.length undef = x := by simp [List.getD, ← hl]
    have e2 : (L ++ [wd]).getD L.length [] = wd := by simp [List.getD]
    rw [e1, e2]
    exact hx.same hs

theorem insF_len (wd : List Int) : ∀ l, (insF l wd).1.length ≤ 2 * l.length := by
  refine snoc_ind (P := fun l => (insF l wd).1.length ≤ 2 * l.length) (by simp [insF]) (fun l x ih => ?_)
  rw [insF_snoc]
  unfold insS
  rw [List.length_append]
  simp only
  split <;> split <;> simp <;> omega

theorem insS_f0 {wd x : List Int} {o : List (List Int)} (h : cmpZ wd x = 0) : insS wd (o, false) x = (o ++ [wd], true) := by simp [insS, h]
theorem insS_fn {wd x : List Int} {o : List (List Int)} (h : cmpZ wd x < 0) : insS wd (o, false) x = (o ++ [wd] ++ [x], true) := by
  have h1 : cmpZ wd x ≤ 0 := by omega
  have h2 : ¬ cmpZ wd x = 0 := by omega
  simp [insS, h1, h2]
theorem insS_fp {wd x : List Int} {o : List (List Int)} (h : 0 < cmpZ wd x) : insS wd (o, false) x = (o ++ [x], false) := by
  have h1 : ¬ cmpZ wd x ≤ 0 := by omega
  have h2 : ¬ cmpZ wd x = 0 := by omega
  simp [insS, h1, h2]
theorem insS_t0 {wd x : List Int} {o : List (List Int)} (h : cmpZ wd x = 0) : insS wd (o, true) x = (o, true) := by simp [insS, h]
theorem insS_tn {wd x : List Int} {o : List (List Int)} (h : ¬ cmpZ wd x = 0) : insS wd (o, true) x = (o ++ [x], true) := by simp [insS, h]

theorem own_ge {w : World} {base e size n : Nat} {v : Value} {xs : List Value} (h : w.ownsRow base e size v n xs) : ∀ k, v.ownBlock = some k → base ≤ k := by
  intro k hk
  rcases h.2 with ⟨rfl, _⟩ | ⟨g, cap, cur, rfl, hg, _⟩
  · cases hk
  · cases hk; exact hg
theorem own_len {w : World} {base e n : Nat} {v : Value} {xs : List Value} (h : w.ownsRow base e 1 v n xs) : xs.length = n := by have := h.1; omega

set_option maxRecDepth 100000 in
set_option maxHeartbeats 2000000 in
theorem l2insert_any (a : Option Addr) (n cap : Nat) (L : List (List Int)) (wa : Option Addr) (wn wc : Nat) (wd : List Int) (w : World) {lo hi : Nat} (h : RSS lo hi w a n cap L) (hw : Rd lo hi w wa wn wc wd) (hhi : hi ≤ w.heap.size) (hn : n ≤ 1048576) :
    Calls Tryz.prog 76 #[.slice a n cap, .slice wa wn wc] w fun e w' => ∃ v, e = .returned v ∧ RW w.heap.size lo hi w' v (insW L wd) ∧ Below w.heap.size w w' := by
  have HR : Hid (RSS lo hi w a n cap L) := h
  have HW : Hid (Rd lo hi w wa wn wc wd) := hw
  have HL : Hid (L.length = n) := h.len
  have hf := h.fits
  clear h hw
  obtain ⟨i0, hi0, hz0, hz1, hz2⟩ := info_parts Tryz.infoBS
  go_enter Tryz.func76, Tryz.ntmps76
  go_wp2_with fail
  go_loopw [5, 6, 7] (fun u p i wr => ∃ (j : Nat) (ov : Value), j ≤ n ∧ i = .int .i64 j ∧ ov = u ∧ p = .bool (insF (L.take j) wd).2 ∧ RW w.heap.size lo hi wr ov (insF (L.take j) wd).1 ∧ Below w.heap.size w wr) (fun _ _ i _ => n - (intOf i).toNat)
  case atStart => exact ⟨0, _, Nat.zero_le _, rfl, rfl, rfl, RW.nil _ _ _ _, Below.refl _ _⟩
  case round =>
    obtain ⟨j, ov, hj, rfl, rfl, rfl, hrow, hbel⟩ := hrel
    have hol := insF_len wd (L.take j)
    have HEnd : Hid (j = n → insW L wd = if (insF (L.take j) wd).2 = true then (insF (L.take j) wd).1 else (insF (L.take j) wd).1 ++ [wd]) := by
      intro e; unfold insW; rw [List.take_of_length_le (by rw [HL.out]; omega)]
    have HSt : Hid (j < n → insF (L.take (j + 1)) wd = insS wd (insF (L.take j) wd) (L.getD j [])) := fun e => insF_take L wd j (by rw [HL.out]; exact e)
    obtain ⟨o, p, hs⟩ : ∃ o p, insF (L.take j) wd = (o, p) := ⟨_, _, rfl⟩
    rw [hs] at hrow hol HEnd HSt ⊢
    have hol : o.length ≤ 2 * 1048576 := by simp only [List.length_take] at hol; omega
    clear hs
    obtain ⟨xs, hown, hxs⟩ := hrow
    have hxl := own_len hown
    have HO : Hid (wr.ownsRow w.heap.size 22 1 ov o.length xs) := hown
    have HX : Hid (∀ i, i < o.length → SlB lo hi wr (xs.getD i undef) (o.getD i [])) := hxs
    have HB : Hid (Below w.heap.size w wr) := hbel
    have HWd : Hid (Rd lo hi wr wa wn wc wd) := HW.out.same (Same.of_below hbel hhi)
    have hsw : w.heap.size ≤ wr.heap.size := hbel.size
    have HGe : Hid (∀ k, ov.ownBlock = some k → w.heap.size ≤ k) := own_ge hown
    clear hown hxs
    by_cases hlt : j < n
    · have hR := HR.out.same (Same.of_below hbel hhi)
      rcases hR.cells with hz | ⟨b, off, e1, _, hbhi, hc⟩
      · omega
      · subst e1
        obtain ⟨v, c0, ea, en, ec, rfl, hr⟩ := hc j hlt
        have HE : Hid (Rd lo hi wr ea en ec (L.getD j [])) := hr
        have hji : (j : Int) < (n : Int) := by omega
        obtain ⟨kz, hkz⟩ : ∃ kz, kz = cmpZ wd (L.getD j []) := ⟨_, rfl⟩
        have HKz : Hid (kz = cmpZ wd (L.getD j [])) := hkz
        have HSj : Hid (insF (L.take (j + 1)) wd = insS wd (o, p) (L.getD j [])) := HSt.out hlt
        clear hR hc hr hbel hkz HSt HEnd
        go_wp2_with fail
        refine (l2bytes_any HWd.out HE.out).mono ?_
        rintro e w1 ⟨rfl, hw1⟩
        rw [hw1, ← HKz.out]
        clear hw1
        cases p
        · by_cases hk0 : kz ≤ 0
          · by_cases hk1 : kz = 0
            · have HS1 : Hid (insF (L.take (j + 1)) wd = (o ++ [wd], true)) := HSj.out.trans (insS_f0 (by rw [← HKz.out]; exact hk1))
              clear HSj
              go_wp2_with (first | (at_builtin; refine wpList_append_own _ rfl (.tmp 27) (.tmp 29) 42 rfl w.heap.size 22 i0 (.slice none 0 0) 1 24 Tryz.undBSS hi0 hz0 hz1 hz2 rfl (by decide) ov o.length xs rfl (HO.out.alloc _) ⟨wr.heap.size, 0, none⟩ 1 1 [.slice wa wn wc] rfl rfl (cell_one_new _ _ _) (by simp [Value.oneCell']) (by unfold maxLen; omega) (by omega) (by simp; omega) ?_; intro v1 w1 hown1 hgrow1 hnil1) | fail)
              go_roundw
              case rel =>
                have hbb := (HB.out.alloc HB.out.size (.cells #[.slice wa wn wc] 22)).grown hgrow1 (by simp; omega) HGe.out
                refine ⟨j + 1, v1, by omega, by go_num, rfl, by rw [HS1.out], ?_, hbb⟩
                rw [HS1.out]
                exact RW.word (w := wr) HX.out hxl ⟨_, _, _, rfl, HWd.out⟩ (fun b h1 h2 => (hbb.block b (by omega)).trans (HB.out.block b (by omega)).symm) hown1
              case measure => simp [intOf]; omega
            · have HS1 : Hid (insF (L.take (j + 1)) wd = (o ++ [wd] ++ [L.getD j []], true)) := HSj.out.trans (insS_fn (by rw [← HKz.out]; omega))
              clear HSj
              go_upto_if 32 with (first | (at_builtin; refine wpList_append_own _ rfl (.tmp 27) (.tmp 29) 42 rfl w.heap.size 22 i0 (.slice none 0 0) 1 24 Tryz.undBSS hi0 hz0 hz1 hz2 rfl (by decide) ov o.length xs rfl (HO.out.alloc _) ⟨wr.heap.size, 0, none⟩ 1 1 [.slice wa wn wc] rfl rfl (cell_one_new _ _ _) (by simp [Value.oneCell']) (by unfold maxLen; omega) (by omega) (by simp; omega) ?_; intro v1 w1 hown1 hgrow1 hnil1) | fail)
              have hbb := (HB.out.alloc HB.out.size (.cells #[.slice wa wn wc] 22)).grown hgrow1 (by simp; omega) HGe.out
              have HB1 : Hid (Below w.heap.size w w1) := hbb
              have c1 : w1.cell? ⟨b, off + j, none⟩ = some (.slice ea en ec) := (World.cell?_of_block (a := ⟨b, off + j, none⟩) ((hbb.block b (by omega)).trans (HB.out.block b (by omega)).symm)).trans c0
              have hr1 := RW.word (w := wr) HX.out hxl ⟨_, _, _, rfl, HWd.out⟩ (fun b h1 h2 => (hbb.block b (by omega)).trans (HB.out.block b (by omega)).symm) hown1
              have HE1 : Hid (Rd lo hi w1 ea en ec (L.getD j [])) := HE.out.same (fun b h1 h2 => (hbb.block b (by omega)).trans (HB.out.block b (by omega)).symm)
              obtain ⟨ys, ho1, hy1⟩ := hr1
              have HO1 : Hid (w1.ownsRow w.heap.size 22 1 v1 (o ++ [wd]).length ys) := ho1
              have HX1 : Hid (∀ i, i < (o ++ [wd]).length → SlB lo hi w1 (ys.getD i undef) ((o ++ [wd]).getD i [])) := hy1
              have hyl := own_len ho1
              have HGe1 : Hid (∀ k, v1.ownBlock = some k → w.heap.size ≤ k) := own_ge ho1
              have hs1 := hbb.size
              have hol1 : (o ++ [wd]).length ≤ 2 * 1048576 + 1 := by simp; omega
              clear ho1 hy1 hbb hown1 hgrow1 hnil1 c0
              go_wp2_with (first | (at_builtin; refine wpList_append_own _ rfl (.tmp 33) (.tmp 38) 42 rfl w.heap.size 22 i0 (.slice none 0 0) 1 24 Tryz.undBSS hi0 hz0 hz1 hz2 rfl (by decide) v1 (o ++ [wd]).length ys rfl (HO1.out.alloc _) ⟨w1.heap.size, 0, none⟩ 1 1 [.slice ea en ec] rfl rfl (cell_one_new _ _ _) (by simp [Value.oneCell']) (by unfold maxLen; omega) (by omega) (by simp; omega) ?_; intro v2 w2 hown2 hgrow2 hnil2) | fail)
              go_roundw
              case rel =>
                have hbb := (HB1.out.alloc HB1.out.size (.cells #[.slice ea en ec] 22)).grown hgrow2 (by simp; omega) HGe1.out
                refine ⟨j + 1, v2, by omega, by go_num, rfl, by rw [HS1.out], ?_, hbb⟩
                rw [HS1.out]
                exact RW.word (w := w1) HX1.out hyl ⟨_, _, _, rfl, HE1.out⟩ (fun b h1 h2 => (hbb.block b (by omega)).trans (HB1.out.block b (by omega)).symm) hown2
              case measure => simp [intOf]; omega
          · have HS1 : Hid (insF (L.take (j + 1)) wd = (o ++ [L.getD j []], false)) := HSj.out.trans (insS_fp (by rw [← HKz.out]; omega))
            have hk1 : ¬ kz = 0 := by omega
            clear HSj
            go_wp2_with (first | (at_builtin; refine wpList_append_own _ rfl (.tmp 33) (.tmp 38) 42 rfl w.heap.size 22 i0 (.slice none 0 0) 1 24 Tryz.undBSS hi0 hz0 hz1 hz2 rfl (by decide) ov o.length xs rfl (HO.out.alloc _) ⟨wr.heap.size, 0, none⟩ 1 1 [.slice ea en ec] rfl rfl (cell_one_new _ _ _) (by simp [Value.oneCell']) (by unfold maxLen; omega) (by omega) (by simp; omega) ?_; intro v1 w1 hown1 hgrow1 hnil1) | fail)
            go_roundw
            case rel =>
              have hbb := (HB.out.alloc HB.out.size (.cells #[.slice ea en ec] 22)).grown hgrow1 (by simp; omega) HGe.out
              refine ⟨j + 1, v1, by omega, by go_num, rfl, by rw [HS1.out], ?_, hbb⟩
              rw [HS1.out]
              exact RW.word (w := wr) HX.out hxl ⟨_, _, _, rfl, HE.out⟩ (fun b h1 h2 => (hbb.block b (by omega)).trans (HB.out.block b (by omega)).symm) hown1
            case measure => simp [intOf]; omega
        · by_cases hk1 : kz = 0
          · have HS1 : Hid (insF (L.take (j + 1)) wd = (o, true)) := HSj.out.trans (insS_t0 (by rw [← HKz.out]; exact hk1))
            clear HSj
            go_wp2_with fail
            go_roundw
            case rel => exact ⟨j + 1, ov, by omega, by go_num, rfl, by rw [HS1.out], by rw [HS1.out]; exact ⟨xs, HO.out, HX.out⟩, HB.out⟩
            case measure => simp [intOf]; omega
          · have HS1 : Hid (insF (L.take (j + 1)) wd = (o ++ [L.getD j []], true)) := HSj.out.trans (insS_tn (by rw [← HKz.out]; exact hk1))
            clear HSj
            go_wp2_with (first | (at_builtin; refine wpList_append_own _ rfl (.tmp 33) (.tmp 38) 42 rfl w.heap.size 22 i0 (.slice none 0 0) 1 24 Tryz.undBSS hi0 hz0 hz1 hz2 rfl (by decide) ov o.length xs rfl (HO.out.alloc _) ⟨wr.heap.size, 0, none⟩ 1 1 [.slice ea en ec] rfl rfl (cell_one_new _ _ _) (by simp [Value.oneCell']) (by unfold maxLen; omega) (by omega) (by simp; omega) ?_; intro v1 w1 hown1 hgrow1 hnil1) | fail)
            go_roundw
            case rel =>
              have hbb := (HB.out.alloc HB.out.size (.cells #[.slice ea en ec] 22)).grown hgrow1 (by simp; omega) HGe.out
              refine ⟨j + 1, v1, by omega, by go_num, rfl, by rw [HS1.out], ?_, hbb⟩
              rw [HS1.out]
              exact RW.word (w := wr) HX.out hxl ⟨_, _, _, rfl, HE.out⟩ (fun b h1 h2 => (hbb.block b (by omega)).trans (HB.out.block b (by omega)).symm) hown1
            case measure => simp [intOf]; omega
    · have HE := HEnd.out (by omega)
      cases p
      · have HE' : Hid (insW L wd = o ++ [wd]) := by unfold Hid; rw [HE]; rfl
        clear HE hbel HEnd HSt
        go_wp2_with (first | (at_builtin; refine wpList_append_own _ rfl (.tmp 42) (.tmp 44) 42 rfl w.heap.size 22 i0 (.slice none 0 0) 1 24 Tryz.undBSS hi0 hz0 hz1 hz2 rfl (by decide) ov o.length xs rfl (HO.out.alloc _) ⟨wr.heap.size, 0, none⟩ 1 1 [.slice wa wn wc] rfl rfl (cell_one_new _ _ _) (by simp [Value.oneCell']) (by unfold maxLen; omega) (by omega) (by simp; omega) ?_; intro v' w' hown' hgrow' hnil') | fail)
        go_ret
        have hbb := (HB.out.alloc HB.out.size (.cells #[.slice wa wn wc] 22)).grown hgrow' (by simp; omega) HGe.out
        refine ⟨_, rfl, ?_, hbb⟩
        rw [HE'.out]
        exact RW.word (w := wr) HX.out hxl ⟨_, _, _, rfl, HWd.out⟩ (fun b h1 h2 => (hbb.block b (by omega)).trans (HB.out.block b (by omega)).symm) hown'
      · have HE' : Hid (insW L wd = o) := by unfold Hid; rw [HE]; rfl
        clear HE hbel HEnd HSt
        go_wp2_with fail
        go_ret
        refine ⟨_, rfl, ?_, HB.out⟩
        rw [HE'.out]
        exact ⟨xs, HO.out, HX.out⟩
end

section
open Go.RowKit

theorem partsL_byt {cs : List CN} {deep : Nat} (h : BytP (partsL cs deep)) (j : Nat) : BytP (partsL (cs.take j) deep) := fun p hp => h p (by rw [partsL_take_drop cs j]; exact List.mem_append_left _ hp)
theorem partsL_take_le (cs : List CN) (deep j : Nat) (h : j < cs.length) : (partsL (cs.take j) deep).length + (parts (cs.getD j CN.zero) deep).length ≤ (partsL cs deep).length := by
  have h1 := partsL_take_succ cs j deep h
  have h2 := partsL_take_drop cs (j + 1) deep
  rw [h2, h1, List.length_append, List.length_append]
  omega

def NmP (d : Nat) : Prop := ∀ (deep : Nat) (v : Value) (c : CN) (w : World) (a : Option Addr) (n cap : Nat) (L : List (List Int)) (lo hi : Nat), RdC lo hi w d v c → RSS lo hi w a n cap L → hi ≤ w.heap.size → lo ≤ w.heap.size → GoodV L → n + (parts c deep).length ≤ 1048576 →
  Calls Tryz.prog 74 #[.slice a n cap, v] w fun e w' => ∃ a' n' c', e = .returned (.slice a' n' c') ∧ RSS lo w'.heap.size w' a' n' c' (namesC c L) ∧ Below w.heap.size w w'

set_option maxRecDepth 100000 in
set_option maxHeartbeats 2000000 in
theorem NmP_of {d : Nat} (H : NmP d) : NmP (d + 1) := by
  intro deep v c w a n cap L lo hi h hl hhi hlo hgood hbd
  have HByt : Hid (BytP (parts c deep)) := h.byts deep
  obtain ⟨na, nn, nc, ra, rn, rc, ka, kn, kc, rfl, hnm, hrl, hk⟩ := h
  have HKL : Hid (c.kids.length = kn) := hk.len
  have hkf := hk.fits
  have HC : Hid (namesC c L = namesL c.kids (if c.kind = 2 then insW L c.name else L)) := namesC_eq c L
  have HP : Hid (parts c deep = (deep, c) :: partsL c.kids (deep + 1)) := parts_eq c deep
  have hLn : L.length = n := hl.len
  have hPl : n + 1 + (partsL c.kids (deep + 1)).length ≤ 1048576 := by have := HP.out; rw [this] at hbd; simp at hbd; omega
  have HBk : Hid (BytP (partsL c.kids (deep + 1))) := fun p hp => HByt.out p (by rw [HP.out]; exact List.mem_cons_of_mem _ hp)
  have HWd : Hid (Rd lo hi w na nn nc c.name) := hnm
  have hwb : Byt c.name := hnm.byte
  have HL0 : Hid (RSS lo hi w a n cap L) := hl
  have HK : Hid (RdL (RdC lo hi w d) lo hi w ka kn kc c.kids) := hk
  have HG : Hid (GoodV L) := hgood
  have HWL : Hid (c.name.length = nn) := hnm.len
  obtain ⟨k, hkd⟩ : ∃ k, k = c.kind := ⟨_, rfl⟩
  rw [← hkd]
  obtain ⟨W1, hW1⟩ : ∃ W1, W1 = w.alloc (.cells #[.int .i64 k, .slice na nn nc, .slice ra rn rc, .slice ka kn kc] 37) := ⟨_, rfl⟩
  have hb0 : Below w.heap.size w W1 := by rw [hW1]; exact (Below.refl _ _).alloc (Nat.le_refl _) _
  have HB0 : Hid (Below w.heap.size w W1) := hb0
  have HBx0 : Hid (BoxC W1 w.heap.size (.int .i64 k) (.slice na nn nc) (.slice ra rn rc) (.slice ka kn kc)) := by unfold Hid; rw [hW1]; exact BoxC.new w _ _ _ _
  have HW1 : Hid (W1 = w.alloc (.cells #[.int .i64 k, .slice na nn nc, .slice ra rn rc, .slice ka kn kc] 37)) := hW1
  have HKd : Hid (k = c.kind) := hkd
  have hs0 := hb0.size
  clear hk hkd hb0 hW1 hnm hrl hl hgood hbd
  by_cases hcase : k = 2
  · have HE1 : Hid ((if c.kind = 2 then insW L c.name else L) = insW L c.name) := by unfold Hid; rw [← HKd.out, if_pos hcase]
    have HG1 : Hid (GoodV (insW L c.name)) := HG.out.ins hwb
    have hL1 : (insW L c.name).length ≤ n + 1 := by have := (insW_len hwb HG.out.srt HG.out.byt).2; omega
    have hd : (k == 2) = true := by simpa using hcase
    clear hcase
    clear hwb
    go_enter Tryz.func74, Tryz.ntmps74
    go_wp2_with fail
    rw [← HW1.out]
    refine (l2insert_any a n cap L na nn nc c.name W1 (HL0.out.below HB0.out hhi) (HWd.out.same (Same.of_below HB0.out hhi)) (Nat.le_trans hhi HB0.out.size) (by omega)).mono ?_
    rintro e w1 ⟨v1, rfl, hrw, hb1⟩
    obtain ⟨a1, c1, rfl, hr1⟩ := hrw.slice (Nat.le_trans hlo HB0.out.size) (Nat.le_trans hhi (Nat.le_trans HB0.out.size hb1.size))
    obtain ⟨n1, hn1⟩ : ∃ n1, n1 = (insW L c.name).length := ⟨_, rfl⟩
    rw [← hn1] at hr1 hL1 ⊢
    have HR1 : Hid (RSS lo w1.heap.size w1 a1 n1 c1 (insW L c.name)) := hr1
    have HB1 : Hid (Below w.heap.size w w1) := HB0.out.trans (hb1.mono HB0.out.size)
    have HBx1 : Hid (BoxC w1 w.heap.size (.int .i64 k) (.slice na nn nc) (.slice ra rn rc) (.slice ka kn kc)) := HBx0.out.below hb1 HBx0.out.lt
    obtain ⟨q0, q1, q2, q3⟩ := HBx1.out.cells
    have HN1 : Hid ((insW L c.name).length = n1) := hn1.symm
    clear hrw hb1 hr1 hn1
    go_wp2_with fail
    go_loopw [0, 5] (fun l i wr => ∃ (j : Nat) (la : Option Addr) (ln lc : Nat), j ≤ kn ∧ i = .int .i64 j ∧ l = .slice la ln lc ∧ RSS lo wr.heap.size wr la ln lc (namesL (c.kids.take j) (insW L c.name)) ∧ Below w.heap.size w wr ∧ BoxC wr w.heap.size (.int .i64 k) (.slice na nn nc) (.slice ra rn rc) (.slice ka kn kc)) (fun _ i _ => kn - (intOf i).toNat)
    case atStart => exact ⟨0, _, _, _, Nat.zero_le _, rfl, rfl, by simp only [List.take_zero, namesL]; exact HR1.out, HB1.out, HBx1.out⟩
    case round =>
      obtain ⟨j, la, ln, lc, hj, rfl, rfl, hrss, hbel, hbox⟩ := hrel
      obtain ⟨p0, p1, p2, p3⟩ := hbox.cells
      have HB2 : Hid (Below w.heap.size w wr) := hbel
      have HBox2 : Hid (BoxC wr w.heap.size (.int .i64 k) (.slice na nn nc) (.slice ra rn rc) (.slice ka kn kc)) := hbox
      have HR2 : Hid (RSS lo wr.heap.size wr la ln lc (namesL (c.kids.take j) (insW L c.name))) := hrss
      by_cases hlt : j < kn
      · have hjl : j < c.kids.length := by rw [HKL.out]; exact hlt
        have hR := HK.out.same (Same.of_below hbel hhi)
        rcases hR.cells with hz | ⟨b, off, e1, _, _, hc⟩
        · omega
        · subst e1
          obtain ⟨v0, v1, v2, v3, c0, c1, c2, c3, hr⟩ := hc j hlt
          have HKid : Hid (RdC lo wr.heap.size wr d (.agg #[v0, v1, v2, v3]) (c.kids.getD j CN.zero)) := hr.mono (Nat.le_refl _) (Nat.le_trans hhi hbel.size)
          have hji : (j : Int) < (kn : Int) := by omega
          have hgj := GoodV.nm HG1.out (partsL_byt HBk.out j)
          rw [← namesL_parts] at hgj
          have HGj : Hid (GoodV (namesL (c.kids.take j) (insW L c.name))) := hgj.1
          have HBd : Hid (ln + (parts (c.kids.getD j CN.zero) (deep + 1)).length ≤ 1048576) := by
            have h1 := hgj.2
            rw [HR2.out.len, HN1.out] at h1
            have h2 := partsL_take_le c.kids (deep + 1) j hjl
            unfold Hid; omega
          have HS : Hid (namesL (c.kids.take (j + 1)) (insW L c.name) = namesC (c.kids.getD j CN.zero) (namesL (c.kids.take j) (insW L c.name))) := namesL_take _ _ _ hjl
          have hlo2 : lo ≤ wr.heap.size := Nat.le_trans hlo hbel.size
          clear hR hc hr hbel hbox hrss hgj
          go_wp2_with fail
          refine (H (deep + 1) (.agg #[v0, v1, v2, v3]) (c.kids.getD j CN.zero) wr la ln lc _ lo wr.heap.size HKid.out HR2.out (Nat.le_refl _) hlo2 HGj.out HBd.out).mono ?_
          rintro e w' ⟨a', n', c', rfl, hr', hb'⟩
          have HR3 : Hid (RSS lo w'.heap.size w' a' n' c' (namesL (c.kids.take (j + 1)) (insW L c.name))) := by unfold Hid; rw [HS.out]; exact hr'
          have HB3 : Hid (Below w.heap.size w w') := HB2.out.trans (hb'.mono HB2.out.size)
          have HBox3 : Hid (BoxC w' w.heap.size (.int .i64 k) (.slice na nn nc) (.slice ra rn rc) (.slice (some ⟨b, off, none⟩) kn kc)) := HBox2.out.below hb' HBox2.out.lt
          clear hb' hr'
          go_wp2_with fail
          go_roundw
          case rel => exact ⟨j + 1, a', n', c', by omega, by go_num, rfl, HR3.out, HB3.out, HBox3.out⟩
          case measure => simp [intOf]; omega
      · have HE : Hid (namesC c L = namesL (c.kids.take j) (insW L c.name)) := by unfold Hid; rw [HC.out, HE1.out, List.take_of_length_le (by rw [HKL.out]; omega)]
        clear hbel hbox hrss
        go_wp2_with fail
        go_ret
        exact ⟨la, ln, lc, rfl, by rw [HE.out]; exact HR2.out, HB2.out⟩
  · have HE1 : Hid ((if c.kind = 2 then insW L c.name else L) = L) := by unfold Hid; rw [← HKd.out, if_neg hcase]
    have hd : (k == 2) = false := by simpa using hcase
    clear hcase
    clear hwb
    obtain ⟨q0, q1, q2, q3⟩ := HBx0.out.cells
    go_enter Tryz.func74, Tryz.ntmps74
    go_wp2_with fail
    rw [← HW1.out]
    have HR1 : Hid (RSS lo W1.heap.size W1 a n cap L) := by unfold Hid; exact RSS.mono (HL0.out.below HB0.out hhi) (Nat.le_refl _) (Nat.le_trans hhi HB0.out.size)
    have HG1 : Hid (GoodV L) := HG.out
    have HN1 : Hid (L.length = n) := hLn
    have hL1 : n ≤ n + 1 := by omega
    have HB1 : Hid (Below w.heap.size w W1) := HB0.out
    have HBx1 : Hid (BoxC W1 w.heap.size (.int .i64 k) (.slice na nn nc) (.slice ra rn rc) (.slice ka kn kc)) := HBx0.out
    go_loopw [0, 5] (fun l i wr => ∃ (j : Nat) (la : Option Addr) (ln lc : Nat), j ≤ kn ∧ i = .int .i64 j ∧ l = .slice la ln lc ∧ RSS lo wr.heap.size wr la ln lc (namesL (c.kids.take j) L) ∧ Below w.heap.size w wr ∧ BoxC wr w.heap.size (.int .i64 k) (.slice na nn nc) (.slice ra rn rc) (.slice ka kn kc)) (fun _ i _ => kn - (intOf i).toNat)
    case atStart => exact ⟨0, _, _, _, Nat.zero_le _, rfl, rfl, by simp only [List.take_zero, namesL]; exact HR1.out, HB1.out, HBx1.out⟩
    case round =>
      obtain ⟨j, la, ln, lc, hj, rfl, rfl, hrss, hbel, hbox⟩ := hrel
      obtain ⟨p0, p1, p2, p3⟩ := hbox.cells
      have HB2 : Hid (Below w.heap.size w wr) := hbel
      have HBox2 : Hid (BoxC wr w.heap.size (.int .i64 k) (.slice na nn nc) (.slice ra rn rc) (.slice ka kn kc)) := hbox
      have HR2 : Hid (RSS lo wr.heap.size wr la ln lc (namesL (c.kids.take j) L)) := hrss
      by_cases hlt : j < kn
      · have hjl : j < c.kids.length := by rw [HKL.out]; exact hlt
        have hR := HK.out.same (Same.of_below hbel hhi)
        rcases hR.cells with hz | ⟨b, off, e1, _, _, hc⟩
        · omega
        · subst e1
          obtain ⟨v0, v1, v2, v3, c0, c1, c2, c3, hr⟩ := hc j hlt
          have HKid : Hid (RdC lo wr.heap.size wr d (.agg #[v0, v1, v2, v3]) (c.kids.getD j CN.zero)) := hr.mono (Nat.le_refl _) (Nat.le_trans hhi hbel.size)
          have hji : (j : Int) < (kn : Int) := by omega
          have hgj := GoodV.nm HG1.out (partsL_byt HBk.out j)
          rw [← namesL_parts] at hgj
          have HGj : Hid (GoodV (namesL (c.kids.take j) L)) := hgj.1
          have HBd : Hid (ln + (parts (c.kids.getD j CN.zero) (deep + 1)).length ≤ 1048576) := by
            have h1 := hgj.2
            rw [HR2.out.len, HN1.out] at h1
            have h2 := partsL_take_le c.kids (deep + 1) j hjl
            unfold Hid; omega
          have HS : Hid (namesL (c.kids.take (j + 1)) L = namesC (c.kids.getD j CN.zero) (namesL (c.kids.take j) L)) := namesL_take _ _ _ hjl
          have hlo2 : lo ≤ wr.heap.size := Nat.le_trans hlo hbel.size
          clear hR hc hr hbel hbox hrss hgj
          go_wp2_with fail
          refine (H (deep + 1) (.agg #[v0, v1, v2, v3]) (c.kids.getD j CN.zero) wr la ln lc _ lo wr.heap.size HKid.out HR2.out (Nat.le_refl _) hlo2 HGj.out HBd.out).mono ?_
          rintro e w' ⟨a', n', c', rfl, hr', hb'⟩
          have HR3 : Hid (RSS lo w'.heap.size w' a' n' c' (namesL (c.kids.take (j + 1)) L)) := by unfold Hid; rw [HS.out]; exact hr'
          have HB3 : Hid (Below w.heap.size w w') := HB2.out.trans (hb'.mono HB2.out.size)
          have HBox3 : Hid (BoxC w' w.heap.size (.int .i64 k) (.slice na nn nc) (.slice ra rn rc) (.slice (some ⟨b, off, none⟩) kn kc)) := HBox2.out.below hb' HBox2.out.lt
          clear hb' hr'
          go_wp2_with fail
          go_roundw
          case rel => exact ⟨j + 1, a', n', c', by omega, by go_num, rfl, HR3.out, HB3.out, HBox3.out⟩
          case measure => simp [intOf]; omega
      · have HE : Hid (namesC c L = namesL (c.kids.take j) L) := by unfold Hid; rw [HC.out, HE1.out, List.take_of_length_le (by rw [HKL.out]; omega)]
        clear hbel hbox hrss
        go_wp2_with fail
        go_ret
        exact ⟨la, ln, lc, rfl, by rw [HE.out]; exact HR2.out, HB2.out⟩

theorem NmP_any : ∀ d, NmP d
  | 0 => fun _ _ _ _ _ _ _ _ _ _ h => h.elim
  | d + 1 => NmP_of (NmP_any d)

def RlP (d : Nat) : Prop := ∀ (deep : Nat) (v : Value) (c : CN) (w : World) (a : Option Addr) (n cap : Nat) (L : List (List Int)) (lo hi : Nat), RdC lo hi w d v c → RSS lo hi w a n cap L → hi ≤ w.heap.size → lo ≤ w.heap.size → GoodV L → n + (parts c deep).length ≤ 1048576 →
  Calls Tryz.prog 75 #[.slice a n cap, v] w fun e w' => ∃ a' n' c', e = .returned (.slice a' n' c') ∧ RSS lo w'.heap.size w' a' n' c' (rolesC c L) ∧ Below w.heap.size w w'

set_option maxRecDepth 100000 in
set_option maxHeartbeats 2000000 in
theorem RlP_of {d : Nat} (H : RlP d) : RlP (d + 1) := by
  intro deep v c w a n cap L lo hi h hl hhi hlo hgood hbd
  have HByt : Hid (BytP (parts c deep)) := h.byts deep
  obtain ⟨na, nn, nc, ra, rn, rc, ka, kn, kc, rfl, hnm, hrl, hk⟩ := h
  have HKL : Hid (c.kids.length = kn) := hk.len
  have hkf := hk.fits
  have HC : Hid (rolesC c L = rolesL c.kids (addW L c.role)) := rolesC_eq c L
  have HP : Hid (parts c deep = (deep, c) :: partsL c.kids (deep + 1)) := parts_eq c deep
  have hLn : L.length = n := hl.len
  have hPl : n + 1 + (partsL c.kids (deep + 1)).length ≤ 1048576 := by have := HP.out; rw [this] at hbd; simp at hbd; omega
  have HBk : Hid (BytP (partsL c.kids (deep + 1))) := fun p hp => HByt.out p (by rw [HP.out]; exact List.mem_cons_of_mem _ hp)
  have HWd : Hid (Rd lo hi w ra rn rc c.role) := hrl
  have hwb : Byt c.role := hrl.byte
  have HL0 : Hid (RSS lo hi w a n cap L) := hl
  have HK : Hid (RdL (RdC lo hi w d) lo hi w ka kn kc c.kids) := hk
  have HG : Hid (GoodV L) := hgood
  have HWL : Hid (c.role.length = rn) := hrl.len
  obtain ⟨k, hkd⟩ : ∃ k, k = c.kind := ⟨_, rfl⟩
  rw [← hkd]
  obtain ⟨W1, hW1⟩ : ∃ W1, W1 = w.alloc (.cells #[.int .i64 k, .slice na nn nc, .slice ra rn rc, .slice ka kn kc] 37) := ⟨_, rfl⟩
  have hb0 : Below w.heap.size w W1 := by rw [hW1]; exact (Below.refl _ _).alloc (Nat.le_refl _) _
  have HB0 : Hid (Below w.heap.size w W1) := hb0
  have HBx0 : Hid (BoxC W1 w.heap.size (.int .i64 k) (.slice na nn nc) (.slice ra rn rc) (.slice ka kn kc)) := by unfold Hid; rw [hW1]; exact BoxC.new w _ _ _ _
  have HW1 : Hid (W1 = w.alloc (.cells #[.int .i64 k, .slice na nn nc, .slice ra rn rc, .slice ka kn kc] 37)) := hW1
  have HKd : Hid (k = c.kind) := hkd
  have hs0 := hb0.size
  clear hk hkd hb0 hW1 hnm hrl hl hgood hbd
  by_cases hcase : 0 < rn
  · have HE1 : Hid ((addW L c.role) = insW L c.role) := by unfold Hid; unfold addW; rw [if_neg (by rw [HWL.out]; omega)]
    have HG1 : Hid (GoodV (insW L c.role)) := HG.out.ins hwb
    have hL1 : (insW L c.role).length ≤ n + 1 := by have := (insW_len hwb HG.out.srt HG.out.byt).2; omega
    have hri : 0 < (rn : Int) := by omega
    clear hwb
    go_enter Tryz.func75, Tryz.ntmps75
    go_wp2_with fail
    rw [← HW1.out]
    refine (l2insert_any a n cap L ra rn rc c.role W1 (HL0.out.below HB0.out hhi) (HWd.out.same (Same.of_below HB0.out hhi)) (Nat.le_trans hhi HB0.out.size) (by omega)).mono ?_
    rintro e w1 ⟨v1, rfl, hrw, hb1⟩
    obtain ⟨a1, c1, rfl, hr1⟩ := hrw.slice (Nat.le_trans hlo HB0.out.size) (Nat.le_trans hhi (Nat.le_trans HB0.out.size hb1.size))
    obtain ⟨n1, hn1⟩ : ∃ n1, n1 = (insW L c.role).length := ⟨_, rfl⟩
    rw [← hn1] at hr1 hL1 ⊢
    have HR1 : Hid (RSS lo w1.heap.size w1 a1 n1 c1 (insW L c.role)) := hr1
    have HB1 : Hid (Below w.heap.size w w1) := HB0.out.trans (hb1.mono HB0.out.size)
    have HBx1 : Hid (BoxC w1 w.heap.size (.int .i64 k) (.slice na nn nc) (.slice ra rn rc) (.slice ka kn kc)) := HBx0.out.below hb1 HBx0.out.lt
    obtain ⟨q0, q1, q2, q3⟩ := HBx1.out.cells
    have HN1 : Hid ((insW L c.role).length = n1) := hn1.symm
    clear hrw hb1 hr1 hn1
    go_wp2_with fail
    go_loopw [0, 5] (fun l i wr => ∃ (j : Nat) (la : Option Addr) (ln lc : Nat), j ≤ kn ∧ i = .int .i64 j ∧ l = .slice la ln lc ∧ RSS lo wr.heap.size wr la ln lc (rolesL (c.kids.take j) (insW L c.role)) ∧ Below w.heap.size w wr ∧ BoxC wr w.heap.size (.int .i64 k) (.slice na nn nc) (.slice ra rn rc) (.slice ka kn kc)) (fun _ i _ => kn - (intOf i).toNat)
    case atStart => exact ⟨0, _, _, _, Nat.zero_le _, rfl, rfl, by simp only [List.take_zero, rolesL]; exact HR1.out, HB1.out, HBx1.out⟩
    case round =>
      obtain ⟨j, la, ln, lc, hj, rfl, rfl, hrss, hbel, hbox⟩ := hrel
      obtain ⟨p0, p1, p2, p3⟩ := hbox.cells
      have HB2 : Hid (Below w.heap.size w wr) := hbel
      have HBox2 : Hid (BoxC wr w.heap.size (.int .i64 k) (.slice na nn nc) (.slice ra rn rc) (.slice ka kn kc)) := hbox
      have HR2 : Hid (RSS lo wr.heap.size wr la ln lc (rolesL (c.kids.take j) (insW L c.role))) := hrss
      by_cases hlt : j < kn
      · have hjl : j < c.kids.length := by rw [HKL.out]; exact hlt
        have hR := HK.out.same (Same.of_below hbel hhi)
        rcases hR.cells with hz | ⟨b, off, e1, _, _, hc⟩
        · omega
        · subst e1
          obtain ⟨v0, v1, v2, v3, c0, c1, c2, c3, hr⟩ := hc j hlt
          have HKid : Hid (RdC lo wr.heap.size wr d (.agg #[v0, v1, v2, v3]) (c.kids.getD j CN.zero)) := hr.mono (Nat.le_refl _) (Nat.le_trans hhi hbel.size)
          have hji : (j : Int) < (kn : Int) := by omega
          have hgj := GoodV.rl HG1.out (partsL_byt HBk.out j)
          rw [← rolesL_parts] at hgj
          have HGj : Hid (GoodV (rolesL (c.kids.take j) (insW L c.role))) := hgj.1
          have HBd : Hid (ln + (parts (c.kids.getD j CN.zero) (deep + 1)).length ≤ 1048576) := by
            have h1 := hgj.2
            rw [HR2.out.len, HN1.out] at h1
            have h2 := partsL_take_le c.kids (deep + 1) j hjl
            unfold Hid; omega
          have HS : Hid (rolesL (c.kids.take (j + 1)) (insW L c.role) = rolesC (c.kids.getD j CN.zero) (rolesL (c.kids.take j) (insW L c.role))) := rolesL_take _ _ _ hjl
          have hlo2 : lo ≤ wr.heap.size := Nat.le_trans hlo hbel.size
          clear hR hc hr hbel hbox hrss hgj
          go_wp2_with fail
          refine (H (deep + 1) (.agg #[v0, v1, v2, v3]) (c.kids.getD j CN.zero) wr la ln lc _ lo wr.heap.size HKid.out HR2.out (Nat.le_refl _) hlo2 HGj.out HBd.out).mono ?_
          rintro e w' ⟨a', n', c', rfl, hr', hb'⟩
          have HR3 : Hid (RSS lo w'.heap.size w' a' n' c' (rolesL (c.kids.take (j + 1)) (insW L c.role))) := by unfold Hid; rw [HS.out]; exact hr'
          have HB3 : Hid (Below w.heap.size w w') := HB2.out.trans (hb'.mono HB2.out.size)
          have HBox3 : Hid (BoxC w' w.heap.size (.int .i64 k) (.slice na nn nc) (.slice ra rn rc) (.slice (some ⟨b, off, none⟩) kn kc)) := HBox2.out.below hb' HBox2.out.lt
          clear hb' hr'
          go_wp2_with fail
          go_roundw
          case rel => exact ⟨j + 1, a', n', c', by omega, by go_num, rfl, HR3.out, HB3.out, HBox3.out⟩
          case measure => simp [intOf]; omega
      · have HE : Hid (rolesC c L = rolesL (c.kids.take j) (insW L c.role)) := by unfold Hid; rw [HC.out, HE1.out, List.take_of_length_le (by rw [HKL.out]; omega)]
        clear hbel hbox hrss
        go_wp2_with fail
        go_ret
        exact ⟨la, ln, lc, rfl, by rw [HE.out]; exact HR2.out, HB2.out⟩
  · have HE1 : Hid ((addW L c.role) = L) := by unfold Hid; unfold addW; rw [if_pos (by rw [HWL.out]; omega)]
    have hri : ¬ (0 < (rn : Int)) := by omega
    clear hwb
    obtain ⟨q0, q1, q2, q3⟩ := HBx0.out.cells
    go_enter Tryz.func75, Tryz.ntmps75
    go_wp2_with fail
    rw [← HW1.out]
    have HR1 : Hid (RSS lo W1.heap.size W1 a n cap L) := by unfold Hid; exact RSS.mono (HL0.out.below HB0.out hhi) (Nat.le_refl _) (Nat.le_trans hhi HB0.out.size)
    have HG1 : Hid (GoodV L) := HG.out
    have HN1 : Hid (L.length = n) := hLn
    have hL1 : n ≤ n + 1 := by omega
    have HB1 : Hid (Below w.heap.size w W1) := HB0.out
    have HBx1 : Hid (BoxC W1 w.heap.size (.int .i64 k) (.slice na nn nc) (.slice ra rn rc) (.slice ka kn kc)) := HBx0.out
    go_loopw [0, 5] (fun l i wr => ∃ (j : Nat) (la : Option Addr) (ln lc : Nat), j ≤ kn ∧ i = .int .i64 j ∧ l = .slice la ln lc ∧ RSS lo wr.heap.size wr la ln lc (rolesL (c.kids.take j) L) ∧ Below w.heap.size w wr ∧ BoxC wr w.heap.size (.int .i64 k) (.slice na nn nc) (.slice ra rn rc) (.slice ka kn kc)) (fun _ i _ => kn - (intOf i).toNat)
    case atStart => exact ⟨0, _, _, _, Nat.zero_le _, rfl, rfl, by simp only [List.take_zero, rolesL]; exact HR1.out, HB1.out, HBx1.out⟩
    case round =>
      obtain ⟨j, la, ln, lc, hj, rfl, rfl, hrss, hbel, hbox⟩ := hrel
      obtain ⟨p0, p1, p2, p3⟩ := hbox.cells
      have HB2 : Hid (Below w.heap.size w wr) := hbel
      have HBox2 : Hid (BoxC wr w.heap.size (.int .i64 k) (.slice na nn nc) (.slice ra rn rc) (.slice ka kn kc)) := hbox
      have HR2 : Hid (RSS lo wr.heap.size wr la ln lc (rolesL (c.kids.take j) L)) := hrss
      by_cases hlt : j < kn
      · have hjl : j < c.kids.length := by rw [HKL.out]; exact hlt
        have hR := HK.out.same (Same.of_below hbel hhi)
        rcases hR.cells with hz | ⟨b, off, e1, _, _, hc⟩
        · omega
        · subst e1
          obtain ⟨v0, v1, v2, v3, c0, c1, c2, c3, hr⟩ := hc j hlt
          have HKid : Hid (RdC lo wr.heap.size wr d (.agg #[v0, v1, v2, v3]) (c.kids.getD j CN.zero)) := hr.mono (Nat.le_refl _) (Nat.le_trans hhi hbel.size)
          have hji : (j : Int) < (kn : Int) := by omega
          have hgj := GoodV.rl HG1.out (partsL_byt HBk.out j)
          rw [← rolesL_parts] at hgj
          have HGj : Hid (GoodV (rolesL (c.kids.take j) L)) := hgj.1
          have HBd : Hid (ln + (parts (c.kids.getD j CN.zero) (deep + 1)).length ≤ 1048576) := by
            have h1 := hgj.2
            rw [HR2.out.len, HN1.out] at h1
            have h2 := partsL_take_le c.kids (deep + 1) j hjl
            unfold Hid; omega
          have HS : Hid (rolesL (c.kids.take (j + 1)) L = rolesC (c.kids.getD j CN.zero) (rolesL (c.kids.take j) L)) := rolesL_take _ _ _ hjl
          have hlo2 : lo ≤ wr.heap.size := Nat.le_trans hlo hbel.size
          clear hR hc hr hbel hbox hrss hgj
          go_wp2_with fail
          refine (H (deep + 1) (.agg #[v0, v1, v2, v3]) (c.kids.getD j CN.zero) wr la ln lc _ lo wr.heap.size HKid.out HR2.out (Nat.le_refl _) hlo2 HGj.out HBd.out).mono ?_
          rintro e w' ⟨a', n', c', rfl, hr', hb'⟩
          have HR3 : Hid (RSS lo w'.heap.size w' a' n' c' (rolesL (c.kids.take (j + 1)) L)) := by unfold Hid; rw [HS.out]; exact hr'
          have HB3 : Hid (Below w.heap.size w w') := HB2.out.trans (hb'.mono HB2.out.size)
          have HBox3 : Hid (BoxC w' w.heap.size (.int .i64 k) (.slice na nn nc) (.slice ra rn rc) (.slice (some ⟨b, off, none⟩) kn kc)) := HBox2.out.below hb' HBox2.out.lt
          clear hb' hr'
          go_wp2_with fail
          go_roundw
          case rel => exact ⟨j + 1, a', n', c', by omega, by go_num, rfl, HR3.out, HB3.out, HBox3.out⟩
          case measure => simp [intOf]; omega
      · have HE : Hid (rolesC c L = rolesL (c.kids.take j) L) := by unfold Hid; rw [HC.out, HE1.out, List.take_of_length_le (by rw [HKL.out]; omega)]
        clear hbel hbox hrss
        go_wp2_with fail
        go_ret
        exact ⟨la, ln, lc, rfl, by rw [HE.out]; exact HR2.out, HB2.out⟩

theorem RlP_any : ∀ d, RlP d
  | 0 => fun _ _ _ _ _ _ _ _ _ _ h => h.elim
  | d + 1 => RlP_of (RlP_any d)
end

section
open Go.RowKit

/-- Its words are of bytes, and its concepts have few parts. -/
structure AxB (x : AX) : Prop where
  c : BytP (parts x.c 1)
  d : BytP (parts x.d 1)
  r : Byt x.r
  s : Byt x.s
  a : Byt x.a
  b : Byt x.b
  nc : (parts x.c 1).length ≤ 16
  nd : (parts x.d 1).length ≤ 16

theorem stN_good {l : List (List Int)} {x : AX} (h : GoodV l) (hx : AxB x) : GoodV (stN l x) ∧ (stN l x).length ≤ l.length + 32 := by
  unfold stN
  rw [namesC_parts x.c 1, namesC_parts x.d 1]
  obtain ⟨h1, h2⟩ := h.nm hx.c
  obtain ⟨h3, h4⟩ := h1.nm hx.d
  have := hx.nc; have := hx.nd
  exact ⟨h3, by omega⟩
theorem rolesC_good {l : List (List Int)} {x : AX} (h : GoodV l) (hx : AxB x) : GoodV (rolesC x.c l) ∧ (rolesC x.c l).length ≤ l.length + 16 ∧ GoodV (rolesC x.d (rolesC x.c l)) ∧ (rolesC x.d (rolesC x.c l)).length ≤ l.length + 32 := by
  rw [rolesC_parts x.c 1, rolesC_parts x.d 1]
  obtain ⟨h1, h2⟩ := h.rl hx.c
  obtain ⟨h3, h4⟩ := h1.rl hx.d
  have := hx.nc; have := hx.nd
  exact ⟨h1, by omega, h3, by omega⟩
theorem stR_good {l : List (List Int)} {x : AX} (h : GoodV l) (hx : AxB x) : GoodV (stR l x) ∧ (stR l x).length ≤ l.length + 34 := by
  unfold stR
  obtain ⟨_, _, h3, h4⟩ := rolesC_good h hx
  have h5 := h3.add hx.r
  have h6 := addW_len hx.r h3.srt h3.byt
  have h7 := addW_len hx.s h5.srt h5.byt
  exact ⟨h5.add hx.s, by omega⟩
theorem stI_good {l : List (List Int)} {x : AX} (h : GoodV l) (hx : AxB x) : GoodV (stI l x) ∧ (stI l x).length ≤ l.length + 2 := by
  unfold stI
  have h5 := h.add hx.a
  have h6 := addW_len hx.a h.srt h.byt
  have h7 := addW_len hx.b h5.srt h5.byt
  exact ⟨h5.add hx.b, by omega⟩

theorem kb_good {f : List (List Int) → AX → List (List Int)} {m : Nat} (hf : ∀ l x, GoodV l → AxB x → GoodV (f l x) ∧ (f l x).length ≤ l.length + m) : ∀ (xs : List AX) (l : List (List Int)), GoodV l → (∀ x ∈ xs, AxB x) → GoodV (xs.foldl f l) ∧ (xs.foldl f l).length ≤ l.length + m * xs.length
  | [], l, h, _ => ⟨h, by simp⟩
  | x :: xs, l, h, hx => by
    obtain ⟨h1, h2⟩ := hf l x h (hx x (by simp))
    obtain ⟨h3, h4⟩ := kb_good hf xs (f l x) h1 (fun y hy => hx y (by simp [hy]))
    refine ⟨h3, ?_⟩
    rw [List.foldl_cons, List.length_cons, Nat.mul_add]
    omega
theorem kbN_good {xs : List AX} (h : ∀ x ∈ xs, AxB x) : GoodV (kbN xs) ∧ (kbN xs).length ≤ 32 * xs.length := by have := kb_good (fun l x => stN_good) xs [] GoodV.nil h; simpa [kbN] using this
theorem kbR_good {xs : List AX} (h : ∀ x ∈ xs, AxB x) : GoodV (kbR xs) ∧ (kbR xs).length ≤ 34 * xs.length := by have := kb_good (fun l x => stR_good) xs [] GoodV.nil h; simpa [kbR] using this
theorem kbI_good {xs : List AX} (h : ∀ x ∈ xs, AxB x) : GoodV (kbI xs) ∧ (kbI xs).length ≤ 2 * xs.length := by have := kb_good (fun l x => stI_good) xs [] GoodV.nil h; simpa [kbI] using this
theorem axb_take {xs : List AX} (h : ∀ x ∈ xs, AxB x) (j : Nat) : ∀ x ∈ xs.take j, AxB x := fun x hx => h x (List.mem_of_mem_take hx)
theorem axb_getD {xs : List AX} (h : ∀ x ∈ xs, AxB x) {j : Nat} (hj : j < xs.length) : AxB (xs.getD j AX.zero) := by
  rw [List.getD_eq_getElem?_getD, List.getElem?_eq_getElem hj]; exact h _ (List.getElem_mem hj)

theorem below_drew (w : World) : Below w.heap.size w w.drew := (Below.refl _ _).drew

theorem RSS.nil (lo hi : Nat) (w : World) : RSS lo hi w none 0 0 [] := ⟨rfl, ⟨Nat.le_refl _, by omega⟩, .inl rfl⟩

set_option maxRecDepth 100000 in
set_option maxHeartbeats 4000000 in
theorem l3names_any {a : Option Addr} {n cap : Nat} {xs : List AX} {dp : Nat} {w : World} {lo hi : Nat} (h : RdK lo hi w dp a n cap xs) (hhi : hi ≤ w.heap.size) (hlo : lo ≤ w.heap.size) (hax : ∀ x ∈ xs, AxB x) (hn8 : n ≤ 8) :
    Calls Tryz.prog 36 #[.agg #[.slice a n cap]] w fun e w' => ∃ a' n' c', e = .returned (.slice a' n' c') ∧ RSS lo w'.heap.size w' a' n' c' (kbN xs) ∧ Below w.heap.size w w' := by
  have HK : Hid (RdK lo hi w dp a n cap xs) := h
  have HL : Hid (xs.length = n) := h.len
  have HAx : Hid (∀ x ∈ xs, AxB x) := hax
  have hf := h.fits
  have hb0 : Below w.heap.size w (w.alloc (.cells #[.slice a n cap] 25)) := (Below.refl _ _).alloc (Nat.le_refl _) _
  have HB0 : Hid (Below w.heap.size w (w.alloc (.cells #[.slice a n cap] 25))) := hb0
  have HBx0 : Hid (Boxed (w.alloc (.cells #[.slice a n cap] 25)) w.heap.size 25 (.slice a n cap)) := Boxed.new w _ _
  clear h hb0 hax
  go_enter Tryz.func36, Tryz.ntmps36
  go_wp2_with fail
  go_loopw [3, 4] (fun l i wr => ∃ (j : Nat) (la : Option Addr) (ln lc : Nat), j ≤ n ∧ i = .int .i64 j ∧ l = .slice la ln lc ∧ RSS lo wr.heap.size wr la ln lc (kbN (xs.take j)) ∧ Below w.heap.size w wr ∧ Boxed wr w.heap.size 25 (.slice a n cap)) (fun _ i _ => n - (intOf i).toNat)
  case atStart => exact ⟨0, _, _, _, Nat.zero_le _, rfl, rfl, RSS.nil _ _ _, HB0.out, HBx0.out⟩
  case round =>
    obtain ⟨j, la, ln, lc, hj, rfl, rfl, hrss, hbel, hbox⟩ := hrel
    have cB := hbox.cell
    have hltB := hbox.lt
    have HB2 : Hid (Below w.heap.size w wr) := hbel
    have HBox2 : Hid (Boxed wr w.heap.size 25 (.slice a n cap)) := hbox
    have HR2 : Hid (RSS lo wr.heap.size wr la ln lc (kbN (xs.take j))) := hrss
    obtain ⟨hgd, hgl⟩ := kbN_good (axb_take HAx.out j)
    have HGd : Hid (GoodV (kbN (xs.take j))) := hgd
    have hln : ln ≤ 300 := by rw [hrss.len, List.length_take] at hgl; omega
    clear hgd hgl
    by_cases hlt : j < n
    · have hjl : j < xs.length := by rw [HL.out]; exact hlt
      have hK := HK.out.below hbel hhi
      rcases hK.cells with hz | ⟨b, off, e1, hblo, hbhi, hc⟩
      · omega
      · subst e1
        obtain ⟨c0, c1, c2, c3, d0, d1, d2, d3, ra, rn, rc, sa, sn, sc, aa, an, ac, ba, bn, bc, q0, q1, q2, q3, q4, q5, q6, q7, q8, q9, q10, q11, q12, hrd⟩ := hc j hlt
        have HRd : Hid (RdA lo hi wr dp c0 c1 c2 c3 d0 d1 d2 d3 ra rn rc sa sn sc aa an ac ba bn bc (xs.getD j AX.zero)) := hrd
        have HAxj : Hid (AxB (xs.getD j AX.zero)) := axb_getD HAx.out hjl
        have HSt : Hid (kbN (xs.take (j + 1)) = stN (kbN (xs.take j)) (xs.getD j AX.zero)) := kbN_take xs j hjl
        have hji : (j : Int) < (n : Int) := by omega
        have hbw : b < wr.heap.size := by have := hbel.size; omega
        have hlo2 : lo ≤ wr.heap.size := Nat.le_trans hlo hbel.size
        have hhi2 : hi ≤ wr.heap.size := Nat.le_trans hhi hbel.size
        obtain ⟨x, hx⟩ : ∃ x, x = xs.getD j AX.zero := ⟨_, rfl⟩
        rw [← hx] at HRd HAxj HSt q0
        obtain ⟨kk, hkk⟩ : ∃ kk, kk = x.kind := ⟨_, rfl⟩
        rw [← hkk] at q0
        clear hK hc hrd hbel hbox hrss hx hkk
        have HSat : Hid (∀ V, Below wr.heap.size wr V → V.cell? ⟨w.heap.size, 0, none⟩ = some (.slice (some ⟨b, off, none⟩) n cap) ∧ V.cell? ⟨b, off + j * 13 + 1, none⟩ = some c0 ∧ V.cell? ⟨b, off + j * 13 + 2, none⟩ = some c1 ∧ V.cell? ⟨b, off + j * 13 + 3, none⟩ = some c2 ∧ V.cell? ⟨b, off + j * 13 + 4, none⟩ = some c3 ∧ V.cell? ⟨b, off + j * 13 + 5, none⟩ = some d0 ∧ V.cell? ⟨b, off + j * 13 + 6, none⟩ = some d1 ∧ V.cell? ⟨b, off + j * 13 + 7, none⟩ = some d2 ∧ V.cell? ⟨b, off + j * 13 + 8, none⟩ = some d3) := by
          intro V hV
          have t : ∀ (p k : Nat) (v : Value), p < wr.heap.size → wr.cell? ⟨p, k, none⟩ = some v → V.cell? ⟨p, k, none⟩ = some v := fun p k v h1 h2 => (hV.cell (p := ⟨p, k, none⟩) h1).trans h2
          exact ⟨t _ _ _ hltB cB, t _ _ _ hbw q1, t _ _ _ hbw q2, t _ _ _ hbw q3, t _ _ _ hbw q4, t _ _ _ hbw q5, t _ _ _ hbw q6, t _ _ _ hbw q7, t _ _ _ hbw q8⟩
        have Hd : Hid (Below wr.heap.size wr wr.drew) := below_drew wr
        have HC0 : Hid (RdC lo wr.heap.size wr.drew dp (.agg #[c0, c1, c2, c3]) x.c) := (HRd.out.c.below Hd.out hhi2).mono (Nat.le_refl _) hhi2
        have HD0 : Hid (∀ V, Below wr.heap.size wr V → RdC lo V.heap.size V dp (.agg #[d0, d1, d2, d3]) x.d) := fun V hV => (HRd.out.d.below hV hhi2).mono (Nat.le_refl _) (Nat.le_trans hhi2 hV.size)
        have HR0 : Hid (RSS lo wr.heap.size wr.drew la ln lc (kbN (xs.take j))) := HR2.out.below Hd.out (Nat.le_refl _)
        have HG1 := HGd.out.nm HAxj.out.c
        rw [← namesC_parts] at HG1
        have HGc : Hid (GoodV (namesC x.c (kbN (xs.take j)))) := HG1.1
        have HLc : Hid ((namesC x.c (kbN (xs.take j))).length ≤ 400) := by have := HG1.2; have := HAxj.out.nc; rw [HR2.out.len] at *; unfold Hid; omega
        clear HG1
        go_upto_region 5 with fail
        first | go_region_held3 (fun V => V.cell? ⟨w.heap.size, 0, none⟩ = some (.slice (some ⟨b, off, none⟩) n cap) ∧ V.cell? ⟨b, off + j * 13 + 1, none⟩ = some c0 ∧ V.cell? ⟨b, off + j * 13 + 2, none⟩ = some c1 ∧ V.cell? ⟨b, off + j * 13 + 3, none⟩ = some c2 ∧ V.cell? ⟨b, off + j * 13 + 4, none⟩ = some c3 ∧ V.cell? ⟨b, off + j * 13 + 5, none⟩ = some d0 ∧ V.cell? ⟨b, off + j * 13 + 6, none⟩ = some d1 ∧ V.cell? ⟨b, off + j * 13 + 7, none⟩ = some d2 ∧ V.cell? ⟨b, off + j * 13 + 8, none⟩ = some d3) (first | with_reducible exact HSat.out _ Hp2.out | with_reducible exact HSat.out _ Hp1.out | with_reducible exact HSat.out _ Hd.out) (first
            | (go_at_call_of 74 c0; refine (NmP_any dp 1 (.agg #[c0, c1, c2, c3]) x.c wr.drew la ln lc _ lo wr.heap.size HC0.out HR0.out (Nat.le_refl _) hlo2 HGd.out (by have := HAxj.out.nc; omega)).mono ?_; rintro e p1 ⟨a1, n1, l1, rfl, hr1, hb1⟩; have Hp1 : Hid (Below wr.heap.size wr p1) := Hd.out.trans hb1; have HR1 : Hid (RSS lo p1.heap.size p1 a1 n1 l1 (namesC x.c (kbN (xs.take j)))) := hr1; clear hr1 hb1)
            | (go_at_call_of 74 d0; refine (NmP_any dp 1 (.agg #[d0, d1, d2, d3]) x.d p1 a1 n1 l1 _ lo p1.heap.size (HD0.out _ Hp1.out) HR1.out (Nat.le_refl _) (Nat.le_trans hlo2 Hp1.out.size) HGc.out (by have := HAxj.out.nd; have := HLc.out; have := HR1.out.len; omega)).mono ?_; rintro e p2 ⟨a2, n2, l2, rfl, hr2, hb2⟩; have Hp2 : Hid (Below wr.heap.size wr p2) := Hp1.out.trans (hb2.mono Hp1.out.size); have HR3 : Hid (RSS lo p2.heap.size p2 a2 n2 l2 (kbN (xs.take (j + 1)))) := (by unfold Hid; rw [HSt.out]; exact hr2); clear hr2 hb2))
        all_goals
          have HB3 : Hid (Below w.heap.size w p2) := HB2.out.trans (Hp2.out.mono HB2.out.size)
          have HBox3 : Hid (Boxed p2 w.heap.size 25 (.slice (some ⟨b, off, none⟩) n cap)) := (Hp2.out.block _ hltB).trans HBox2.out
          go_wp2_with fail
          go_roundw
          case rel => exact ⟨j + 1, a2, n2, l2, by omega, by go_num, rfl, HR3.out, HB3.out, HBox3.out⟩
          case measure => simp [intOf]; omega
    · have HE : Hid (kbN xs = kbN (xs.take j)) := by unfold Hid; rw [List.take_of_length_le (by rw [HL.out]; omega)]
      clear hbel hbox hrss
      go_wp2_with fail
      go_ret
      exact ⟨la, ln, lc, rfl, by rw [HE.out]; exact HR2.out, HB2.out⟩
end

section
open Go.RowKit

set_option maxRecDepth 100000 in
set_option maxHeartbeats 4000000 in
theorem l3roles_any {a : Option Addr} {n cap : Nat} {xs : List AX} {dp : Nat} {w : World} {lo hi : Nat} (h : RdK lo hi w dp a n cap xs) (hhi : hi ≤ w.heap.size) (hlo : lo ≤ w.heap.size) (hax : ∀ x ∈ xs, AxB x) (hn8 : n ≤ 8) :
    Calls Tryz.prog 37 #[.agg #[.slice a n cap]] w fun e w' => ∃ a' n' c', e = .returned (.slice a' n' c') ∧ RSS lo w'.heap.size w' a' n' c' (kbR xs) ∧ Below w.heap.size w w' := by
  have HK : Hid (RdK lo hi w dp a n cap xs) := h
  have HL : Hid (xs.length = n) := h.len
  have HAx : Hid (∀ x ∈ xs, AxB x) := hax
  have hf := h.fits
  have hb0 : Below w.heap.size w (w.alloc (.cells #[.slice a n cap] 25)) := (Below.refl _ _).alloc (Nat.le_refl _) _
  have HB0 : Hid (Below w.heap.size w (w.alloc (.cells #[.slice a n cap] 25))) := hb0
  have HBx0 : Hid (Boxed (w.alloc (.cells #[.slice a n cap] 25)) w.heap.size 25 (.slice a n cap)) := Boxed.new w _ _
  clear h hb0 hax
  go_enter Tryz.func37, Tryz.ntmps37
  go_wp2_with fail
  go_loopw [3, 4] (fun l i wr => ∃ (j : Nat) (la : Option Addr) (ln lc : Nat), j ≤ n ∧ i = .int .i64 j ∧ l = .slice la ln lc ∧ RSS lo wr.heap.size wr la ln lc (kbR (xs.take j)) ∧ Below w.heap.size w wr ∧ Boxed wr w.heap.size 25 (.slice a n cap)) (fun _ i _ => n - (intOf i).toNat)
  case atStart => exact ⟨0, _, _, _, Nat.zero_le _, rfl, rfl, RSS.nil _ _ _, HB0.out, HBx0.out⟩
  case round =>
    obtain ⟨j, la, ln, lc, hj, rfl, rfl, hrss, hbel, hbox⟩ := hrel
    have cB := hbox.cell
    have hltB := hbox.lt
    have HB2 : Hid (Below w.heap.size w wr) := hbel
    have HBox2 : Hid (Boxed wr w.heap.size 25 (.slice a n cap)) := hbox
    have HR2 : Hid (RSS lo wr.heap.size wr la ln lc (kbR (xs.take j))) := hrss
    obtain ⟨hgd, hgl⟩ := kbR_good (axb_take HAx.out j)
    have HGd : Hid (GoodV (kbR (xs.take j))) := hgd
    have hln : ln ≤ 300 := by rw [hrss.len, List.length_take] at hgl; omega
    clear hgd hgl
    by_cases hlt : j < n
    · have hjl : j < xs.length := by rw [HL.out]; exact hlt
      have hK := HK.out.below hbel hhi
      rcases hK.cells with hz | ⟨b, off, e1, hblo, hbhi, hc⟩
      · omega
      · subst e1
        obtain ⟨c0, c1, c2, c3, d0, d1, d2, d3, ra, rn, rc, sa, sn, sc, aa, an, ac, ba, bn, bc, q0, q1, q2, q3, q4, q5, q6, q7, q8, q9, q10, q11, q12, hrd⟩ := hc j hlt
        have HRd : Hid (RdA lo hi wr dp c0 c1 c2 c3 d0 d1 d2 d3 ra rn rc sa sn sc aa an ac ba bn bc (xs.getD j AX.zero)) := hrd
        have HAxj : Hid (AxB (xs.getD j AX.zero)) := axb_getD HAx.out hjl
        have HSt : Hid (kbR (xs.take (j + 1)) = stR (kbR (xs.take j)) (xs.getD j AX.zero)) := kbR_take xs j hjl
        have hji : (j : Int) < (n : Int) := by omega
        have hbw : b < wr.heap.size := by have := hbel.size; omega
        have hlo2 : lo ≤ wr.heap.size := Nat.le_trans hlo hbel.size
        have hhi2 : hi ≤ wr.heap.size := Nat.le_trans hhi hbel.size
        obtain ⟨x, hx⟩ : ∃ x, x = xs.getD j AX.zero := ⟨_, rfl⟩
        rw [← hx] at HRd HAxj HSt q0
        obtain ⟨kk, hkk⟩ : ∃ kk, kk = x.kind := ⟨_, rfl⟩
        rw [← hkk] at q0
        clear hK hc hrd hbel hbox hrss hx hkk
        obtain ⟨ek, e1a, e1n, e1c, e2a, e2n, e2c, e3a, e3n, e3c, rfl, rfl, rfl, rfl⟩ := HRd.out.c.sh.form
        obtain ⟨fk, f1a, f1n, f1c, f2a, f2n, f2c, f3a, f3n, f3c, rfl, rfl, rfl, rfl⟩ := HRd.out.d.sh.form
        obtain ⟨w1, hw1⟩ : ∃ w1, w1 = wr.alloc (.cells #[.int .i64 kk, .int .i64 ek, .slice e1a e1n e1c, .slice e2a e2n e2c, .slice e3a e3n e3c, .int .i64 fk, .slice f1a f1n f1c, .slice f2a f2n f2c, .slice f3a f3n f3c, .slice ra rn rc, .slice sa sn sc, .slice aa an ac, .slice ba bn bc] 39) := ⟨_, rfl⟩
        have HW1 : Hid (w1 = wr.alloc (.cells #[.int .i64 kk, .int .i64 ek, .slice e1a e1n e1c, .slice e2a e2n e2c, .slice e3a e3n e3c, .int .i64 fk, .slice f1a f1n f1c, .slice f2a f2n f2c, .slice f3a f3n f3c, .slice ra rn rc, .slice sa sn sc, .slice aa an ac, .slice ba bn bc] 39)) := hw1
        have hb1 : Below wr.heap.size wr w1 := by rw [hw1]; exact (Below.refl _ _).alloc (Nat.le_refl _) _
        have s1 : w1.heap.size = wr.heap.size + 1 := by rw [hw1]; simp
        have HBA1 : Hid (BoxA 39 w1 wr.heap.size kk (.int .i64 ek) (.slice e1a e1n e1c) (.slice e2a e2n e2c) (.slice e3a e3n e3c) (.int .i64 fk) (.slice f1a f1n f1c) (.slice f2a f2n f2c) (.slice f3a f3n f3c) (.slice ra rn rc) (.slice sa sn sc) (.slice aa an ac) (.slice ba bn bc)) := by unfold Hid; rw [hw1]; exact BoxA.new _ wr _ _ _ _ _ _ _ _ _ _ _ _ _
        have HB1 : Hid (Below wr.heap.size wr w1) := hb1
        have HRd1 : Hid (∀ V, Below w1.heap.size w1 V → RdA lo hi V dp (.int .i64 ek) (.slice e1a e1n e1c) (.slice e2a e2n e2c) (.slice e3a e3n e3c) (.int .i64 fk) (.slice f1a f1n f1c) (.slice f2a f2n f2c) (.slice f3a f3n f3c) ra rn rc sa sn sc aa an ac ba bn bc x) := fun V hV => (HRd.out.below hb1 hhi2).below hV (by omega)
        have HSat : Hid (∀ V, Below w1.heap.size w1 V → V.cell? ⟨wr.heap.size, 1, none⟩ = some (.int .i64 ek) ∧ V.cell? ⟨wr.heap.size, 2, none⟩ = some (.slice e1a e1n e1c) ∧ V.cell? ⟨wr.heap.size, 3, none⟩ = some (.slice e2a e2n e2c) ∧ V.cell? ⟨wr.heap.size, 4, none⟩ = some (.slice e3a e3n e3c) ∧ V.cell? ⟨wr.heap.size, 5, none⟩ = some (.int .i64 fk) ∧ V.cell? ⟨wr.heap.size, 6, none⟩ = some (.slice f1a f1n f1c) ∧ V.cell? ⟨wr.heap.size, 7, none⟩ = some (.slice f2a f2n f2c) ∧ V.cell? ⟨wr.heap.size, 8, none⟩ = some (.slice f3a f3n f3c)) := by
          intro V hV
          obtain ⟨m0, m1, m2, m3, m4, m5, m6, m7, m8, _⟩ := (HBA1.out.below hV (by omega)).cells
          exact ⟨m1, m2, m3, m4, m5, m6, m7, m8⟩
        have Hd : Hid (Below w1.heap.size w1 w1.drew) := below_drew w1
        have HR0 : Hid (RSS lo w1.heap.size w1.drew la ln lc (kbR (xs.take j))) := by unfold Hid; exact (RSS.mono (HR2.out.below hb1 (Nat.le_refl _)) (Nat.le_refl _) hb1.size).below Hd.out (Nat.le_refl _)
        obtain ⟨hg1, hg2, hg3, hg4⟩ := rolesC_good HGd.out HAxj.out
        have hlnn : (kbR (xs.take j)).length = ln := HR2.out.len
        have hlo1 : lo ≤ w1.heap.size := by omega
        have HGc : Hid (GoodV (rolesC x.c (kbR (xs.take j)))) := hg1
        have HGcd : Hid (GoodV (rolesC x.d (rolesC x.c (kbR (xs.take j))))) := hg3
        have hlc1 : (rolesC x.c (kbR (xs.take j))).length ≤ 400 := by omega
        have hlc2 : (rolesC x.d (rolesC x.c (kbR (xs.take j)))).length ≤ 400 := by omega
        have hlc3 : (addW (rolesC x.d (rolesC x.c (kbR (xs.take j)))) x.r).length ≤ 401 := by have := addW_len HAxj.out.r hg3.srt hg3.byt; omega
        have HWlr : Hid (x.r.length = rn) := HRd.out.r.len
        have HWls : Hid (x.s.length = sn) := HRd.out.s.len
        have HWdr : Hid (∀ V, Below w1.heap.size w1 V → Rd lo hi V ra rn rc x.r) := fun V hV => (HRd1.out V hV).r
        have HWds : Hid (∀ V, Below w1.heap.size w1 V → Rd lo hi V sa sn sc x.s) := fun V hV => (HRd1.out V hV).s
        obtain ⟨m0, m1, m2, m3, m4, m5, m6, m7, m8, m9, m10, m11, m12⟩ := HBA1.out.cells
        clear hw1 hb1 hg1 hg2 hg3 hg4
        go_upto_region 6 with fail
        rw [← HW1.out]
        go_cut [3] (fun v V => ∃ a' n' c', v = .slice a' n' c' ∧ RSS lo V.heap.size V a' n' c' (rolesC x.d (rolesC x.c (kbR (xs.take j)))) ∧ Below w1.heap.size w1 V)
        case first =>
          first | go_region_held3 (fun V => V.cell? ⟨wr.heap.size, 1, none⟩ = some (.int .i64 ek) ∧ V.cell? ⟨wr.heap.size, 2, none⟩ = some (.slice e1a e1n e1c) ∧ V.cell? ⟨wr.heap.size, 3, none⟩ = some (.slice e2a e2n e2c) ∧ V.cell? ⟨wr.heap.size, 4, none⟩ = some (.slice e3a e3n e3c) ∧ V.cell? ⟨wr.heap.size, 5, none⟩ = some (.int .i64 fk) ∧ V.cell? ⟨wr.heap.size, 6, none⟩ = some (.slice f1a f1n f1c) ∧ V.cell? ⟨wr.heap.size, 7, none⟩ = some (.slice f2a f2n f2c) ∧ V.cell? ⟨wr.heap.size, 8, none⟩ = some (.slice f3a f3n f3c)) (first | with_reducible exact HSat.out _ Hp2.out | with_reducible exact HSat.out _ Hp1.out | with_reducible exact HSat.out _ Hd.out) (first
            | (go_at_call_of 75 ek; refine (RlP_any dp 1 (.agg #[.int .i64 ek, .slice e1a e1n e1c, .slice e2a e2n e2c, .slice e3a e3n e3c]) x.c w1.drew la ln lc _ lo w1.heap.size ((HRd1.out _ Hd.out).c.mono (Nat.le_refl _) (by omega)) HR0.out (Nat.le_refl _) hlo1 HGd.out (by have := HAxj.out.nc; omega)).mono ?_; rintro e p1 ⟨a1, n1, l1, rfl, hr1, hb1⟩; have Hp1 : Hid (Below w1.heap.size w1 p1) := Hd.out.trans hb1; have HR1 : Hid (RSS lo p1.heap.size p1 a1 n1 l1 (rolesC x.c (kbR (xs.take j)))) := hr1; clear hr1 hb1)
            | (go_at_call_of 75 fk; refine (RlP_any dp 1 (.agg #[.int .i64 fk, .slice f1a f1n f1c, .slice f2a f2n f2c, .slice f3a f3n f3c]) x.d p1 a1 n1 l1 _ lo p1.heap.size ((HRd1.out _ Hp1.out).d.mono (Nat.le_refl _) (by have := Hp1.out.size; omega)) HR1.out (Nat.le_refl _) (by have := Hp1.out.size; omega) HGc.out (by have := HAxj.out.nd; have := HR1.out.len; omega)).mono ?_; rintro e p2 ⟨a2, n2, l2, rfl, hr2, hb2⟩; have Hp2 : Hid (Below w1.heap.size w1 p2) := Hp1.out.trans (hb2.mono Hp1.out.size); have HR3 : Hid (RSS lo p2.heap.size p2 a2 n2 l2 (rolesC x.d (rolesC x.c (kbR (xs.take j))))) := hr2; clear hr2 hb2))
          all_goals
            go_wp2_with fail
            go_meet
            case rel => exact ⟨a2, n2, l2, rfl, HR3.out, Hp2.out⟩
        case rest =>
          obtain ⟨a2, n2, l2, hv, hr, hb⟩ := hcut
          subst hv
          obtain ⟨w2, hw2⟩ : ∃ V, V = wc := ⟨_, rfl⟩
          subst hw2
          have HBc2 : Hid (Below w1.heap.size w1 w2) := hb
          have HRc2 : Hid (RSS lo w2.heap.size w2 a2 n2 l2 (rolesC x.d (rolesC x.c (kbR (xs.take j))))) := hr
          have hsc2 := hb.size
          have HBA2 : Hid (BoxA 39 w2 wr.heap.size kk (.int .i64 ek) (.slice e1a e1n e1c) (.slice e2a e2n e2c) (.slice e3a e3n e3c) (.int .i64 fk) (.slice f1a f1n f1c) (.slice f2a f2n f2c) (.slice f3a f3n f3c) (.slice ra rn rc) (.slice sa sn sc) (.slice aa an ac) (.slice ba bn bc)) := HBA1.out.below hb (by omega)
          clear m0 m1 m2 m3 m4 m5 m6 m7 m8 m9 m10 m11 m12 hr hb
          obtain ⟨m0, m1, m2, m3, m4, m5, m6, m7, m8, m9, m10, m11, m12⟩ := HBA2.out.cells
          go_upto_if 28 with fail
          go_cut [3] (fun v V => ∃ a' n' c', v = .slice a' n' c' ∧ RSS lo V.heap.size V a' n' c' (addW (rolesC x.d (rolesC x.c (kbR (xs.take j)))) x.r) ∧ Below w1.heap.size w1 V)
          case first =>
            by_cases hw0 : rn = 0
            · have HA : Hid ((addW (rolesC x.d (rolesC x.c (kbR (xs.take j)))) x.r) = (rolesC x.d (rolesC x.c (kbR (xs.take j))))) := by unfold Hid addW; rw [if_pos (by rw [HWlr.out]; exact hw0)]
              have hwi : ¬ (0 < (rn : Int)) := by omega
              go_wp2_with fail
              go_meet
              case rel => exact ⟨_, _, _, rfl, by rw [HA.out]; exact HRc2.out, HBc2.out⟩
            · have HA : Hid ((addW (rolesC x.d (rolesC x.c (kbR (xs.take j)))) x.r) = insW (rolesC x.d (rolesC x.c (kbR (xs.take j)))) x.r) := by unfold Hid addW; rw [if_neg (by rw [HWlr.out]; exact hw0)]
              have hwi : 0 < (rn : Int) := by omega
              go_wp2_with fail
              refine (l2insert_any a2 n2 l2 _ ra rn rc x.r w2 HRc2.out ((HWdr.out _ HBc2.out).mono (Nat.le_refl _) (by have := HBc2.out.size; omega)) (Nat.le_refl _) (by have := HRc2.out.len; omega)).mono ?_
              rintro e p1 ⟨v1, rfl, hrw, hb1⟩
              obtain ⟨a1, l1, rfl, hr1⟩ := hrw.slice (by have := HBc2.out.size; omega) hb1.size
              have HR9 : Hid (RSS lo p1.heap.size p1 a1 _ l1 (insW (rolesC x.d (rolesC x.c (kbR (xs.take j)))) x.r)) := hr1
              have HB9 : Hid (Below w1.heap.size w1 p1) := HBc2.out.trans (hb1.mono HBc2.out.size)
              obtain ⟨n1, hn1⟩ : ∃ n1, n1 = (insW (rolesC x.d (rolesC x.c (kbR (xs.take j)))) x.r).length := ⟨_, rfl⟩
              rw [← hn1] at HR9 ⊢
              clear hrw hb1 hr1 hn1
              go_wp2_with fail
              go_meet
              case rel => exact ⟨_, _, _, rfl, by rw [HA.out]; exact HR9.out, HB9.out⟩
          case rest =>
            obtain ⟨a3, n3, l3, hv, hr, hb⟩ := hcut
            subst hv
            obtain ⟨w3, hw3⟩ : ∃ V, V = wc := ⟨_, rfl⟩
            subst hw3
            have HBc3 : Hid (Below w1.heap.size w1 w3) := hb
            have HRc3 : Hid (RSS lo w3.heap.size w3 a3 n3 l3 (addW (rolesC x.d (rolesC x.c (kbR (xs.take j)))) x.r)) := hr
            have hsc3 := hb.size
            have HBA3 : Hid (BoxA 39 w3 wr.heap.size kk (.int .i64 ek) (.slice e1a e1n e1c) (.slice e2a e2n e2c) (.slice e3a e3n e3c) (.int .i64 fk) (.slice f1a f1n f1c) (.slice f2a f2n f2c) (.slice f3a f3n f3c) (.slice ra rn rc) (.slice sa sn sc) (.slice aa an ac) (.slice ba bn bc)) := HBA1.out.below hb (by omega)
            clear m0 m1 m2 m3 m4 m5 m6 m7 m8 m9 m10 m11 m12 hr hb
            obtain ⟨m0, m1, m2, m3, m4, m5, m6, m7, m8, m9, m10, m11, m12⟩ := HBA3.out.cells
            have HFb : Hid (∀ V, Below w1.heap.size w1 V → Below w.heap.size w V) := fun V hV => HB2.out.trans ((HB1.out.mono HB2.out.size).trans (hV.mono (by have := HB2.out.size; omega)))
            have HFx : Hid (∀ V, Below w1.heap.size w1 V → Boxed V w.heap.size 25 (.slice (some ⟨b, off, none⟩) n cap)) := fun V hV => (hV.block _ (by omega)).trans ((HB1.out.block _ hltB).trans HBox2.out)
            by_cases hw0 : sn = 0
            · have HA : Hid (kbR (xs.take (j + 1)) = (addW (rolesC x.d (rolesC x.c (kbR (xs.take j)))) x.r)) := by unfold Hid; rw [HSt.out]; show addW (addW (rolesC x.d (rolesC x.c (kbR (xs.take j)))) x.r) x.s = _; unfold addW; rw [if_pos (by rw [HWls.out]; exact hw0)]
              have hwi : ¬ (0 < (sn : Int)) := by omega
              have HRf : Hid (RSS lo w3.heap.size w3 a3 n3 l3 (kbR (xs.take (j + 1)))) := by unfold Hid; rw [HA.out]; exact HRc3.out
              have HB3 : Hid (Below w.heap.size w w3) := HFb.out _ HBc3.out
              have HBox3 : Hid (Boxed w3 w.heap.size 25 (.slice (some ⟨b, off, none⟩) n cap)) := HFx.out _ HBc3.out
              go_wp2_with fail
              go_roundw
              case rel => exact ⟨j + 1, _, _, _, by omega, by go_num, rfl, HRf.out, HB3.out, HBox3.out⟩
              case measure => simp [intOf]; omega
            · have HA : Hid (kbR (xs.take (j + 1)) = insW (addW (rolesC x.d (rolesC x.c (kbR (xs.take j)))) x.r) x.s) := by unfold Hid; rw [HSt.out]; show addW (addW (rolesC x.d (rolesC x.c (kbR (xs.take j)))) x.r) x.s = _; unfold addW; rw [if_neg (by rw [HWls.out]; exact hw0)]
              have hwi : 0 < (sn : Int) := by omega
              go_wp2_with fail
              refine (l2insert_any a3 n3 l3 _ sa sn sc x.s w3 HRc3.out ((HWds.out _ HBc3.out).mono (Nat.le_refl _) (by have := HBc3.out.size; omega)) (Nat.le_refl _) (by have := HRc3.out.len; omega)).mono ?_
              rintro e p1 ⟨v1, rfl, hrw, hb1⟩
              obtain ⟨a1, l1, rfl, hr1⟩ := hrw.slice (by have := HBc3.out.size; omega) hb1.size
              have HB9 : Hid (Below w1.heap.size w1 p1) := HBc3.out.trans (hb1.mono HBc3.out.size)
              rw [← HA.out] at hr1 ⊢
              obtain ⟨n1, hn1⟩ : ∃ n1, n1 = (kbR (xs.take (j + 1))).length := ⟨_, rfl⟩
              rw [← hn1] at hr1 ⊢
              have HRf : Hid (RSS lo p1.heap.size p1 a1 n1 l1 (kbR (xs.take (j + 1)))) := hr1
              have HB3 : Hid (Below w.heap.size w p1) := HFb.out _ HB9.out
              have HBox3 : Hid (Boxed p1 w.heap.size 25 (.slice (some ⟨b, off, none⟩) n cap)) := HFx.out _ HB9.out
              clear hrw hb1 hr1 hn1
              go_wp2_with fail
              go_roundw
              case rel => exact ⟨j + 1, _, _, _, by omega, by go_num, rfl, HRf.out, HB3.out, HBox3.out⟩
              case measure => simp [intOf]; omega

    · have HE : Hid (kbR xs = kbR (xs.take j)) := by unfold Hid; rw [List.take_of_length_le (by rw [HL.out]; omega)]
      clear hbel hbox hrss
      go_wp2_with fail
      go_ret
      exact ⟨la, ln, lc, rfl, by rw [HE.out]; exact HR2.out, HB2.out⟩

set_option maxRecDepth 100000 in
set_option maxHeartbeats 4000000 in
theorem l3inds_any {a : Option Addr} {n cap : Nat} {xs : List AX} {dp : Nat} {w : World} {lo hi : Nat} (h : RdK lo hi w dp a n cap xs) (hhi : hi ≤ w.heap.size) (hlo : lo ≤ w.heap.size) (hax : ∀ x ∈ xs, AxB x) (hn8 : n ≤ 8) :
    Calls Tryz.prog 38 #[.agg #[.slice a n cap]] w fun e w' => ∃ a' n' c', e = .returned (.slice a' n' c') ∧ RSS lo w'.heap.size w' a' n' c' (kbI xs) ∧ Below w.heap.size w w' := by
  have HK : Hid (RdK lo hi w dp a n cap xs) := h
  have HL : Hid (xs.length = n) := h.len
  have HAx : Hid (∀ x ∈ xs, AxB x) := hax
  have hf := h.fits
  have hb0 : Below w.heap.size w (w.alloc (.cells #[.slice a n cap] 25)) := (Below.refl _ _).alloc (Nat.le_refl _) _
  have HB0 : Hid (Below w.heap.size w (w.alloc (.cells #[.slice a n cap] 25))) := hb0
  have HBx0 : Hid (Boxed (w.alloc (.cells #[.slice a n cap] 25)) w.heap.size 25 (.slice a n cap)) := Boxed.new w _ _
  clear h hb0 hax
  go_enter Tryz.func38, Tryz.ntmps38
  go_wp2_with fail
  go_loopw [3, 4] (fun l i wr => ∃ (j : Nat) (la : Option Addr) (ln lc : Nat), j ≤ n ∧ i = .int .i64 j ∧ l = .slice la ln lc ∧ RSS lo wr.heap.size wr la ln lc (kbI (xs.take j)) ∧ Below w.heap.size w wr ∧ Boxed wr w.heap.size 25 (.slice a n cap)) (fun _ i _ => n - (intOf i).toNat)
  case atStart => exact ⟨0, _, _, _, Nat.zero_le _, rfl, rfl, RSS.nil _ _ _, HB0.out, HBx0.out⟩
  case round =>
    obtain ⟨j, la, ln, lc, hj, rfl, rfl, hrss, hbel, hbox⟩ := hrel
    have cB := hbox.cell
    have hltB := hbox.lt
    have HB2 : Hid (Below w.heap.size w wr) := hbel
    have HBox2 : Hid (Boxed wr w.heap.size 25 (.slice a n cap)) := hbox
    have HR2 : Hid (RSS lo wr.heap.size wr la ln lc (kbI (xs.take j))) := hrss
    obtain ⟨hgd, hgl⟩ := kbI_good (axb_take HAx.out j)
    have HGd : Hid (GoodV (kbI (xs.take j))) := hgd
    have hln : ln ≤ 300 := by rw [hrss.len, List.length_take] at hgl; omega
    clear hgd hgl
    by_cases hlt : j < n
    · have hjl : j < xs.length := by rw [HL.out]; exact hlt
      have hK := HK.out.below hbel hhi
      rcases hK.cells with hz | ⟨b, off, e1, hblo, hbhi, hc⟩
      · omega
      · subst e1
        obtain ⟨c0, c1, c2, c3, d0, d1, d2, d3, ra, rn, rc, sa, sn, sc, aa, an, ac, ba, bn, bc, q0, q1, q2, q3, q4, q5, q6, q7, q8, q9, q10, q11, q12, hrd⟩ := hc j hlt
        have HRd : Hid (RdA lo hi wr dp c0 c1 c2 c3 d0 d1 d2 d3 ra rn rc sa sn sc aa an ac ba bn bc (xs.getD j AX.zero)) := hrd
        have HAxj : Hid (AxB (xs.getD j AX.zero)) := axb_getD HAx.out hjl
        have HSt : Hid (kbI (xs.take (j + 1)) = stI (kbI (xs.take j)) (xs.getD j AX.zero)) := kbI_take xs j hjl
        have hji : (j : Int) < (n : Int) := by omega
        have hbw : b < wr.heap.size := by have := hbel.size; omega
        have hlo2 : lo ≤ wr.heap.size := Nat.le_trans hlo hbel.size
        have hhi2 : hi ≤ wr.heap.size := Nat.le_trans hhi hbel.size
        obtain ⟨x, hx⟩ : ∃ x, x = xs.getD j AX.zero := ⟨_, rfl⟩
        rw [← hx] at HRd HAxj HSt q0
        obtain ⟨kk, hkk⟩ : ∃ kk, kk = x.kind := ⟨_, rfl⟩
        rw [← hkk] at q0
        clear hK hc hrd hbel hbox hrss hx hkk
        have HWla : Hid (x.a.length = an) := HRd.out.a.len
        have HWlb : Hid (x.b.length = bn) := HRd.out.b.len
        have HWda : Hid (∀ V, Below wr.heap.size wr V → Rd lo hi V aa an ac x.a) := fun V hV => HRd.out.a.below hV hhi2
        have HWdb : Hid (∀ V, Below wr.heap.size wr V → Rd lo hi V ba bn bc x.b) := fun V hV => HRd.out.b.below hV hhi2
        have hlnn : (kbI (xs.take j)).length = ln := HR2.out.len
        have hlc1 : (addW (kbI (xs.take j)) x.a).length ≤ 401 := by have := addW_len HAxj.out.a HGd.out.srt HGd.out.byt; omega
        have HBc1 : Hid (Below wr.heap.size wr wr) := Below.refl _ _
        have HAt : Hid (∀ V, Below wr.heap.size wr V → V.cell? ⟨w.heap.size, 0, none⟩ = some (.slice (some ⟨b, off, none⟩) n cap) ∧ V.cell? ⟨b, off + j * 13 + 11, none⟩ = some (.slice aa an ac) ∧ V.cell? ⟨b, off + j * 13 + 12, none⟩ = some (.slice ba bn bc)) := fun V hV => ⟨(hV.cell (p := ⟨w.heap.size, 0, none⟩) hltB).trans cB, (hV.cell (p := ⟨b, _, none⟩) hbw).trans q11, (hV.cell (p := ⟨b, _, none⟩) hbw).trans q12⟩
        go_upto_if 19 with fail
        go_cut [3] (fun v V => ∃ a' n' c', v = .slice a' n' c' ∧ RSS lo V.heap.size V a' n' c' (addW (kbI (xs.take j)) x.a) ∧ Below wr.heap.size wr V)
        case first =>
          by_cases hw0 : an = 0
          · have HA : Hid ((addW (kbI (xs.take j)) x.a) = (kbI (xs.take j))) := by unfold Hid addW; rw [if_pos (by rw [HWla.out]; exact hw0)]
            have hwi : ¬ (0 < (an : Int)) := by omega
            go_wp2_with fail
            go_meet
            case rel => exact ⟨_, _, _, rfl, by rw [HA.out]; exact HR2.out, HBc1.out⟩
          · have HA : Hid ((addW (kbI (xs.take j)) x.a) = insW (kbI (xs.take j)) x.a) := by unfold Hid addW; rw [if_neg (by rw [HWla.out]; exact hw0)]
            have hwi : 0 < (an : Int) := by omega
            go_wp2_with fail
            refine (l2insert_any la ln lc _ aa an ac x.a wr HR2.out ((HWda.out _ HBc1.out).mono (Nat.le_refl _) (by have := HBc1.out.size; omega)) (Nat.le_refl _) (by omega)).mono ?_
            rintro e p1 ⟨v1, rfl, hrw, hb1⟩
            obtain ⟨a1, l1, rfl, hr1⟩ := hrw.slice (by have := HBc1.out.size; omega) hb1.size
            have HR9 : Hid (RSS lo p1.heap.size p1 a1 _ l1 (insW (kbI (xs.take j)) x.a)) := hr1
            have HB9 : Hid (Below wr.heap.size wr p1) := HBc1.out.trans (hb1.mono HBc1.out.size)
            obtain ⟨n1, hn1⟩ : ∃ n1, n1 = (insW (kbI (xs.take j)) x.a).length := ⟨_, rfl⟩
            rw [← hn1] at HR9 ⊢
            clear hrw hb1 hr1 hn1
            go_wp2_with fail
            go_meet
            case rel => exact ⟨_, _, _, rfl, by rw [HA.out]; exact HR9.out, HB9.out⟩
        case rest =>
          obtain ⟨a3, n3, l3, hv, hr, hb⟩ := hcut
          subst hv
          obtain ⟨w3, hw3⟩ : ∃ V, V = wc := ⟨_, rfl⟩
          subst hw3
          have HBc3 : Hid (Below wr.heap.size wr w3) := hb
          have HRc3 : Hid (RSS lo w3.heap.size w3 a3 n3 l3 (addW (kbI (xs.take j)) x.a)) := hr
          have hsc3 := hb.size
          clear hr hb
          clear q11 q12 cB
          obtain ⟨cB, q11, q12⟩ := HAt.out _ HBc3.out
          have hbw3 : b < w3.heap.size := by omega
          have HFb : Hid (∀ V, Below wr.heap.size wr V → Below w.heap.size w V) := fun V hV => HB2.out.trans (hV.mono HB2.out.size)
          have HFx : Hid (∀ V, Below wr.heap.size wr V → Boxed V w.heap.size 25 (.slice (some ⟨b, off, none⟩) n cap)) := fun V hV => (hV.block _ hltB).trans HBox2.out
          by_cases hw0 : bn = 0
          · have HA : Hid (kbI (xs.take (j + 1)) = (addW (kbI (xs.take j)) x.a)) := by unfold Hid; rw [HSt.out]; show addW (addW (kbI (xs.take j)) x.a) x.b = _; unfold addW; rw [if_pos (by rw [HWlb.out]; exact hw0)]
            have hwi : ¬ (0 < (bn : Int)) := by omega
            have HRf : Hid (RSS lo w3.heap.size w3 a3 n3 l3 (kbI (xs.take (j + 1)))) := by unfold Hid; rw [HA.out]; exact HRc3.out
            have HB3 : Hid (Below w.heap.size w w3) := HFb.out _ HBc3.out
            have HBox3 : Hid (Boxed w3 w.heap.size 25 (.slice (some ⟨b, off, none⟩) n cap)) := HFx.out _ HBc3.out
            go_wp2_with fail
            go_roundw
            case rel => exact ⟨j + 1, _, _, _, by omega, by go_num, rfl, HRf.out, HB3.out, HBox3.out⟩
            case measure => simp [intOf]; omega
          · have HA : Hid (kbI (xs.take (j + 1)) = insW (addW (kbI (xs.take j)) x.a) x.b) := by unfold Hid; rw [HSt.out]; show addW (addW (kbI (xs.take j)) x.a) x.b = _; unfold addW; rw [if_neg (by rw [HWlb.out]; exact hw0)]
            have hwi : 0 < (bn : Int) := by omega
            go_wp2_with fail
            refine (l2insert_any a3 n3 l3 _ ba bn bc x.b w3 HRc3.out ((HWdb.out _ HBc3.out).mono (Nat.le_refl _) (by have := HBc3.out.size; omega)) (Nat.le_refl _) (by have := HRc3.out.len; omega)).mono ?_
            rintro e p1 ⟨v1, rfl, hrw, hb1⟩
            obtain ⟨a1, l1, rfl, hr1⟩ := hrw.slice (by have := HBc3.out.size; omega) hb1.size
            have HB9 : Hid (Below wr.heap.size wr p1) := HBc3.out.trans (hb1.mono HBc3.out.size)
            rw [← HA.out] at hr1 ⊢
            obtain ⟨n1, hn1⟩ : ∃ n1, n1 = (kbI (xs.take (j + 1))).length := ⟨_, rfl⟩
            rw [← hn1] at hr1 ⊢
            have HRf : Hid (RSS lo p1.heap.size p1 a1 n1 l1 (kbI (xs.take (j + 1)))) := hr1
            have HB3 : Hid (Below w.heap.size w p1) := HFb.out _ HB9.out
            have HBox3 : Hid (Boxed p1 w.heap.size 25 (.slice (some ⟨b, off, none⟩) n cap)) := HFx.out _ HB9.out
            clear hrw hb1 hr1 hn1
            go_wp2_with fail
            go_roundw
            case rel => exact ⟨j + 1, _, _, _, by omega, by go_num, rfl, HRf.out, HB3.out, HBox3.out⟩
            case measure => simp [intOf]; omega

    · have HE : Hid (kbI xs = kbI (xs.take j)) := by unfold Hid; rw [List.take_of_length_le (by rw [HL.out]; omega)]
      clear hbel hbox hrss
      go_wp2_with fail
      go_ret
      exact ⟨la, ln, lc, rfl, by rw [HE.out]; exact HR2.out, HB2.out⟩
end

end Go.Proofs.YtckhjoancfbkfaaGreat
