/- Several texts in one: KbTxtS, KbTxtI, KbMark. -/
import Derived.Test.YtodpaihndpjbfaaAxTextFn
import Derived.Test.YtodpaihndpjbfaaKbOkFn
import Derived.Test.YtodpaihndpjbfaaKbVocM
import Derived.Test.YtodpaihndpjbfaaLawBox
import Derived.RangeFuncBox
namespace Go.Proofs.Ytodpaihndpjbfaa

section
open Go.RowKit

def textK : List AX → List Int
  | [] => []
  | x :: xs => axSay x ++ [10] ++ textK xs
theorem textK_append (xs ys : List AX) : textK (xs ++ ys) = textK xs ++ textK ys := by
  induction xs with
  | nil => rfl
  | cons x xs ih => simp [textK, ih]
theorem textK_take (xs : List AX) (k : Nat) (h : k < xs.length) : textK (xs.take (k + 1)) = textK (xs.take k) ++ axSay (xs.getD k AX.zero) ++ [10] := by
  rw [take_succ_getD xs AX.zero k h, textK_append]
  simp [textK]
theorem axSay_len {x : AX} (h : axOk x = true) : (axSay x).length ≤ 1000 := by
  have := axText_len x
  unfold axText at this
  rw [if_pos h] at this
  exact this
theorem textK_len {xs : List AX} (h : ∀ x ∈ xs, axOk x = true) : (textK xs).length ≤ 1001 * xs.length := by
  induction xs with
  | nil => simp [textK]
  | cons x xs ih =>
    have h1 := axSay_len (h x (by simp))
    have h2 := ih (fun y hy => h y (by simp [hy]))
    simp only [textK, List.length_append, List.length_cons, List.length_nil]
    omega
theorem ownB_mono {base base' : Nat} {w : World} {v : Value} {zs : List Int} (h : OwnB base w v zs) (hb : base' ≤ base) : OwnB base' w v zs := by
  obtain ⟨r1, r2⟩ := h
  refine ⟨r1, ?_⟩
  rcases r2 with r2 | ⟨g, cap, cur, hv, hg, r⟩
  · exact .inl r2
  · exact .inr ⟨g, cap, cur, hv, Nat.le_trans hb hg, r⟩

set_option maxRecDepth 100000 in
set_option maxHeartbeats 2000000 in
theorem l3text_any {a : Option Addr} {n cap : Nat} {xs : List AX} {dp : Nat} {w : World} {lo hi : Nat} (h : RdK lo hi w dp a n cap xs) (hhi : hi ≤ w.heap.size) (hok : ∀ x ∈ xs, axOk x = true) (hn8 : n ≤ 8) :
    Calls Try.prog 108 #[.agg #[.slice a n cap]] w fun e w' => ∃ v, e = .returned v ∧ OwnB w.heap.size w' v (textK xs) ∧ Below w.heap.size w w' := by
  obtain ⟨W0, hW0⟩ : ∃ W0, W0 = w.alloc (.cells #[.slice a n cap] 66) := ⟨_, rfl⟩
  have HW0 : Hid (W0 = w.alloc (.cells #[.slice a n cap] 66)) := hW0
  have hs0 : w.heap.size < W0.heap.size := by rw [hW0]; simp
  have hb0 : Below w.heap.size w W0 := by rw [hW0]; exact (Below.refl _ _).alloc (Nat.le_refl _) _
  have HB0 : Hid (Below w.heap.size w W0) := hb0
  have HBx0 : Hid (Boxed W0 w.heap.size 66 (.slice a n cap)) := by unfold Hid; rw [hW0]; exact Boxed.new w _ _
  have HK : Hid (RdK lo hi W0 dp a n cap xs) := h.below hb0 hhi
  have HL : Hid (xs.length = n) := h.len
  have HOk : Hid (∀ x ∈ xs, axOk x = true) := hok
  have hf := h.fits
  obtain ⟨j0, hj0, hy0, hy1, hy2⟩ := info_parts Try.info5
  clear h hb0 hok hW0
  go_enter Try.func108, Try.ntmps108
  go_wp2_with fail
  rw [← HW0.out]
  go_loopw [3, 4] (fun l i wr => ∃ (j : Nat) (ov : Value), j ≤ n ∧ i = .int .i64 j ∧ ov = l ∧ OwnB W0.heap.size wr ov (textK (xs.take j)) ∧ Below W0.heap.size W0 wr) (fun _ i _ => n - (intOf i).toNat)
  case atStart => exact ⟨0, _, Nat.zero_le _, rfl, rfl, OwnB.nil _ _, Below.refl _ _⟩
  case round =>
    obtain ⟨j, ov, hj, rfl, rfl, hO, hbel⟩ := hrel
    have HO : Hid (OwnB W0.heap.size wr ov (textK (xs.take j))) := hO
    have HB : Hid (Below W0.heap.size W0 wr) := hbel
    have hbxr : Boxed wr w.heap.size 66 (.slice a n cap) := (hbel.block _ hs0).trans HBx0.out
    have cB := hbxr.cell
    clear hbxr
    have hsr := hbel.size
    have HTl : Hid ((textK (xs.take j)).length ≤ 8008) := by
      have h1 := textK_len (xs := xs.take j) (fun x hx => HOk.out x (List.mem_of_mem_take hx))
      have h2 : (xs.take j).length ≤ 8 := by rw [List.length_take]; omega
      unfold Hid; omega
    by_cases hlt : j < n
    · have hjl : j < xs.length := by rw [HL.out]; exact hlt
      have hK := HK.out.below hbel (by omega)
      rcases hK.cells with hz | ⟨b, off, e1, hblo, hbhi, hc⟩
      · omega
      · subst e1
        obtain ⟨c0, c1, c2, c3, d0, d1, d2, d3, ra, rn, rc, sa, sn, sc, aa, an, ac, ba, bn, bc, q0, q1, q2, q3, q4, q5, q6, q7, q8, q9, q10, q11, q12, hrd⟩ := hc j hlt
        have HRd : Hid (RdA lo hi wr dp c0 c1 c2 c3 d0 d1 d2 d3 ra rn rc sa sn sc aa an ac ba bn bc (xs.getD j AX.zero)) := hrd
        have HSt : Hid (textK (xs.take (j + 1)) = textK (xs.take j) ++ axSay (xs.getD j AX.zero) ++ [10]) := textK_take xs j hjl
        have hokx : axOk (xs.getD j AX.zero) = true := HOk.out _ (by rw [List.getD_eq_getElem?_getD, List.getElem?_eq_getElem hjl]; exact List.getElem_mem hjl)
        have hji : (j : Int) < (n : Int) := by omega
        obtain ⟨x, hx⟩ : ∃ x, x = xs.getD j AX.zero := ⟨_, rfl⟩
        rw [← hx] at HRd hokx HSt q0
        have hsl := axSay_len hokx
        have HOx : Hid (axOk x = true) := hokx
        obtain ⟨kk, hkk⟩ : ∃ kk, kk = x.kind := ⟨_, rfl⟩
        rw [← hkk] at q0
        have HKk : Hid (kk = x.kind) := hkk
        clear hK hc hrd hO hbel hx hkk hokx
        go_wp2_with fail
        refine (l3say_any HRd.out (Nat.le_trans hhi (Nat.le_of_lt hs0)) hsr HOx.out kk HKk.out HO.out (by have := HTl.out; omega)).mono ?_
        rintro e w1 ⟨v1, rfl, hO1, hK1⟩
        have HO1 : Hid (OwnB W0.heap.size w1 v1 (textK (xs.take j) ++ axSay x)) := hO1
        have HB1 : Hid (Below W0.heap.size W0 w1) := HB.out.trans hK1.1
        have hs1 := HB1.out.size
        have hl1 : (textK (xs.take j) ++ axSay x).length ≤ 9008 := by have := HTl.out; rw [List.length_append]; omega
        obtain ⟨m, hm⟩ : ∃ m, m = (textK (xs.take j) ++ axSay x).length := ⟨_, rfl⟩
        have HM : Hid (m = (textK (xs.take j) ++ axSay x).length) := hm
        rw [← hm] at hl1
        have HOr : Hid ((w1.alloc (.cells #[.int .u8 10] 5)).ownsRow W0.heap.size 5 1 v1 m ((textK (xs.take j) ++ axSay x).map (Value.int .u8))) := by
          have := (HO1.out.below ((Below.refl w1.heap.size w1).alloc (Nat.le_refl _) (.cells #[.int .u8 10] 5)) (Nat.le_refl _))
          unfold OwnB at this
          rw [← hm] at this
          exact this
        clear hO1 hK1 q0 q1 q2 q3 q4 q5 q6 q7 q8 q9 q10 q11 q12 cB hm
        go_wp2_with (first
          | (at_builtin; refine wpList_append_own _ rfl (.tmp 18) (.tmp 19) 22 rfl W0.heap.size 5 j0 (.int .u8 0) 1 1 Try.underlying22 hj0 hy0 hy1 hy2 rfl (by decide) v1 m ((textK (xs.take j) ++ axSay x).map (Value.int .u8)) rfl HOr.out ⟨w1.heap.size, 0, none⟩ 1 1 [.int .u8 10] rfl rfl (cell_one_new _ _ _) (by simp [Value.oneCell']) (by unfold maxLen; omega) (by omega) (by simp; omega) ?_; intro v3 w3 hown3 hgrow3 hnil3) | fail)
        go_roundw
        case rel =>
          have hO2 : OwnB W0.heap.size (w1.alloc (.cells #[.int .u8 10] 5)) v1 (textK (xs.take j) ++ axSay x) := HO1.out.below ((Below.refl w1.heap.size w1).alloc (Nat.le_refl _) _) (Nat.le_refl _)
          have hb3 : Below W0.heap.size W0 w3 := (HB1.out.alloc hs1 _).grown hgrow3 (by simp; omega) (fun g hg => (World.ownsRow.lt hO2 g hg).1)
          refine ⟨j + 1, v3, by omega, by go_num, rfl, ?_, hb3⟩
          rw [HSt.out]
          unfold OwnB
          have e : (textK (xs.take j) ++ axSay x ++ [10]).length = m + 1 := by rw [List.length_append, ← HM.out]; rfl
          rw [e, List.map_append]
          exact hown3
        case measure => simp [intOf]; omega
    · have HE : Hid (textK xs = textK (xs.take j)) := by unfold Hid; rw [List.take_of_length_le (by rw [HL.out]; omega)]
      clear hbel hO
      go_wp2_with fail
      go_ret
      exact ⟨ov, rfl, by rw [HE.out]; exact ownB_mono HO.out (Nat.le_of_lt hs0), HB0.out.trans (HB.out.mono (Nat.le_of_lt hs0))⟩
end

section
open Go.RowKit

def kbText (xs : List AX) : List Int := if kbB xs = true then textK xs else []

theorem kbB_ok {xs : List AX} (h : kbB xs = true) : xs.length ≤ 8 ∧ ∀ x ∈ xs, axOk x = true := by
  unfold kbB at h
  simp only [Bool.and_eq_true] at h
  exact ⟨of_decide_eq_true h.1, List.all_eq_true.1 h.2.1⟩

theorem kbText_len (xs : List AX) : (kbText xs).length ≤ 8008 := by
  unfold kbText
  split
  · rename_i h
    obtain ⟨h1, h2⟩ := kbB_ok h
    have := textK_len h2
    omega
  · simp

set_option maxRecDepth 100000 in
set_option maxHeartbeats 2000000 in
theorem specKbText_any {a : Option Addr} {n cap : Nat} {xs : List AX} {dp : Nat} {w : World} {lo hi : Nat} (h : RdK lo hi w dp a n cap xs) (hhi : hi ≤ w.heap.size) (hlo : lo ≤ w.heap.size) :
    Calls Try.prog 40 #[.agg #[.slice a n cap]] w fun e w' => ∃ v, e = .returned v ∧ OwnB w.heap.size w' v (kbText xs) ∧ Below w.heap.size w w' := by
  obtain ⟨W0, hW0⟩ : ∃ W0, W0 = w.alloc (.cells #[.slice a n cap] 66) := ⟨_, rfl⟩
  have HW0 : Hid (W0 = w.alloc (.cells #[.slice a n cap] 66)) := hW0
  have hs0 : w.heap.size < W0.heap.size := by rw [hW0]; simp
  have hb0 : Below w.heap.size w W0 := by rw [hW0]; exact (Below.refl _ _).alloc (Nat.le_refl _) _
  have HB0 : Hid (Below w.heap.size w W0) := hb0
  have HBx0 : Hid (Boxed W0 w.heap.size 66 (.slice a n cap)) := by unfold Hid; rw [hW0]; exact Boxed.new w _ _
  have HK : Hid (RdK lo hi W0 dp a n cap xs) := h.below hb0 hhi
  have HL : Hid (xs.length = n) := h.len
  have hf := h.fits
  have z0 := HBx0.out.cell
  clear h hb0 hW0 hf
  go_enter Try.func40, Try.ntmps40
  go_wp2_with fail
  rw [← HW0.out]
  refine (specKbOk_any HK.out (by omega) (by omega)).mono ?_
  rintro e w1 ⟨rfl, hb1⟩
  have H1 : Hid (Below W0.heap.size W0 w1) := hb1
  have HB1 : Hid (Below w.heap.size w w1) := HB0.out.trans (hb1.mono (Nat.le_of_lt hs0))
  have hbx1 : Boxed w1 w.heap.size 66 (.slice a n cap) := (hb1.block _ hs0).trans HBx0.out
  have hs1 := hb1.size
  clear hb1 z0
  have z0 := hbx1.cell
  clear hbx1
  cases hok : kbB xs
  · have HE : Hid (kbText xs = []) := by unfold Hid kbText; rw [hok]; rfl
    go_wp2_with fail
    go_ret
    exact ⟨_, rfl, by rw [HE.out]; exact OwnB.nil _ _, HB1.out⟩
  · have HE : Hid (kbText xs = textK xs) := by unfold Hid kbText; rw [hok]; rfl
    have HOk : Hid (∀ x ∈ xs, axOk x = true) := (kbB_ok hok).2
    have hn8 : n ≤ 8 := by rw [← HL.out]; exact (kbB_ok hok).1
    go_wp2_with fail
    refine (l3text_any (HK.out.below H1.out (by omega)) (by omega) HOk.out hn8).mono ?_
    rintro e w2 ⟨v2, rfl, hO2, hb2⟩
    have HO2 : Hid (OwnB w.heap.size w2 v2 (textK xs)) := ownB_mono hO2 HB1.out.size
    have HB2 : Hid (Below w.heap.size w w2) := HB1.out.trans (hb2.mono HB1.out.size)
    clear hO2 hb2
    go_wp2_with fail
    go_ret
    exact ⟨v2, rfl, by rw [HE.out]; exact HO2.out, HB2.out⟩

set_option maxRecDepth 100000 in
set_option maxHeartbeats 4000000 in
theorem implKbText_any {a : Option Addr} {n cap : Nat} {xs : List AX} {dp : Nat} {w : World} {lo hi : Nat} (h : RdK lo hi w dp a n cap xs) (hhi : hi ≤ w.heap.size) (hbk : ∀ x ∈ xs, x.c.bulk ≤ 1048576 ∧ x.d.bulk ≤ 1048576) :
    Calls Try.prog 41 #[.agg #[.slice a n cap]] w fun e w' => ∃ v, e = .returned v ∧ OwnB w.heap.size w' v (kbText xs) ∧ Below w.heap.size w w' := by
  obtain ⟨W0, hW0⟩ : ∃ W0, W0 = w.alloc (.cells #[.slice a n cap] 66) := ⟨_, rfl⟩
  have HW0 : Hid (W0 = w.alloc (.cells #[.slice a n cap] 66)) := hW0
  have hs0 : w.heap.size < W0.heap.size := by rw [hW0]; simp
  have hb0 : Below w.heap.size w W0 := by rw [hW0]; exact (Below.refl _ _).alloc (Nat.le_refl _) _
  have HB0 : Hid (Below w.heap.size w W0) := hb0
  have HBx0 : Hid (Boxed W0 w.heap.size 66 (.slice a n cap)) := by unfold Hid; rw [hW0]; exact Boxed.new w _ _
  have HK : Hid (RdK lo hi W0 dp a n cap xs) := h.below hb0 hhi
  have HL : Hid (xs.length = n) := h.len
  have hf := h.fits
  have HBk : Hid (∀ x ∈ xs, x.c.bulk ≤ 1048576 ∧ x.d.bulk ≤ 1048576) := hbk
  obtain ⟨j0, hj0, hy0, hy1, hy2⟩ := info_parts Try.info5
  have z0 := HBx0.out.cell
  clear h hb0 hW0 hbk
  go_enter Try.func41, Try.ntmps41
  go_wp2_with fail
  rw [← HW0.out]
  refine (implKbOk_any HK.out (by omega) HBk.out).mono ?_
  rintro e w1 ⟨rfl, hb1⟩
  have H1 : Hid (Below W0.heap.size W0 w1) := hb1
  have HB1 : Hid (Below w.heap.size w w1) := HB0.out.trans (hb1.mono (Nat.le_of_lt hs0))
  have hbx1 : Boxed w1 w.heap.size 66 (.slice a n cap) := (hb1.block _ hs0).trans HBx0.out
  have hs1 := hb1.size
  clear hb1 z0
  have z0 := hbx1.cell
  clear hbx1
  cases hok : kbB xs
  · have HE : Hid (kbText xs = []) := by unfold Hid kbText; rw [hok]; rfl
    go_wp2_with fail
    go_ret
    exact ⟨_, rfl, by rw [HE.out]; exact OwnB.nil _ _, HB1.out⟩
  · have HE : Hid (kbText xs = textK xs) := by unfold Hid kbText; rw [hok]; rfl
    have HOk : Hid (∀ x ∈ xs, axOk x = true) := (kbB_ok hok).2
    have hn8 : n ≤ 8 := by rw [← HL.out]; exact (kbB_ok hok).1
    go_wp2_with fail
    go_loopw [3, 12] (fun l i wr => ∃ (j : Nat) (ov : Value), j ≤ n ∧ i = .int .i64 j ∧ ov = l ∧ OwnB w1.heap.size wr ov (textK (xs.take j)) ∧ Below w1.heap.size w1 wr) (fun _ i _ => n - (intOf i).toNat)
    case atStart => exact ⟨0, _, Nat.zero_le _, rfl, rfl, OwnB.nil _ _, Below.refl _ _⟩
    case round =>
      obtain ⟨j, ov, hj, rfl, rfl, hO, hbel⟩ := hrel
      have HO : Hid (OwnB w1.heap.size wr ov (textK (xs.take j))) := hO
      have HB : Hid (Below w1.heap.size w1 wr) := hbel
      have hsr := hbel.size
      have HTl : Hid ((textK (xs.take j)).length ≤ 8008) := by
        have h1 := textK_len (xs := xs.take j) (fun x hx => HOk.out x (List.mem_of_mem_take hx))
        have h2 : (xs.take j).length ≤ 8 := by rw [List.length_take]; omega
        unfold Hid; omega
      by_cases hlt : j < n
      · have hjl : j < xs.length := by rw [HL.out]; exact hlt
        have hK := (HK.out.below H1.out (by omega)).below hbel (by omega)
        rcases hK.cells with hz | ⟨b, off, e1, hblo, hbhi, hc⟩
        · omega
        · subst e1
          obtain ⟨c0, c1, c2, c3, d0, d1, d2, d3, ra, rn, rc, sa, sn, sc, aa, an, ac, ba, bn, bc, q0, q1, q2, q3, q4, q5, q6, q7, q8, q9, q10, q11, q12, hrd⟩ := hc j hlt
          obtain ⟨ek, e1a, e1n, e1c, e2a, e2n, e2c, e3a, e3n, e3c, rfl, rfl, rfl, rfl⟩ := hrd.c.sh.form
          obtain ⟨fk, f1a, f1n, f1c, f2a, f2n, f2c, f3a, f3n, f3c, rfl, rfl, rfl, rfl⟩ := hrd.d.sh.form
          have HSt : Hid (textK (xs.take (j + 1)) = textK (xs.take j) ++ axSay (xs.getD j AX.zero) ++ [10]) := textK_take xs j hjl
          have hokx : axOk (xs.getD j AX.zero) = true := HOk.out _ (by rw [List.getD_eq_getElem?_getD, List.getElem?_eq_getElem hjl]; exact List.getElem_mem hjl)
          have hji : (j : Int) < (n : Int) := by omega
          obtain ⟨x, hx⟩ : ∃ x, x = xs.getD j AX.zero := ⟨_, rfl⟩
          rw [← hx] at hrd hokx HSt q0
          have hsl := axSay_len hokx
          have HOx : Hid (axOk x = true) := hokx
          obtain ⟨kk, hkk⟩ : ∃ kk, kk = x.kind := ⟨_, rfl⟩
          rw [← hkk] at q0
          have HKk : Hid (kk = x.kind) := hkk
          obtain ⟨v0, hv0⟩ : ∃ v0, v0 = wr.alloc (.cells #[.int .i64 kk, .int .i64 ek, .slice e1a e1n e1c, .slice e2a e2n e2c, .slice e3a e3n e3c, .int .i64 fk, .slice f1a f1n f1c, .slice f2a f2n f2c, .slice f3a f3n f3c, .slice ra rn rc, .slice sa sn sc, .slice aa an ac, .slice ba bn bc] 147) := ⟨_, rfl⟩
          have HV0 : Hid (v0 = wr.alloc (.cells #[.int .i64 kk, .int .i64 ek, .slice e1a e1n e1c, .slice e2a e2n e2c, .slice e3a e3n e3c, .int .i64 fk, .slice f1a f1n f1c, .slice f2a f2n f2c, .slice f3a f3n f3c, .slice ra rn rc, .slice sa sn sc, .slice aa an ac, .slice ba bn bc] 147)) := hv0
          have hbv : Below wr.heap.size wr v0 := by rw [hv0]; exact (Below.refl _ _).alloc (Nat.le_refl _) _
          have sv0 : wr.heap.size < v0.heap.size := by rw [hv0]; simp
          have HBv : Hid (Below w1.heap.size w1 v0) := HB.out.trans (hbv.mono hsr)
          have hBA : BoxA 147 v0 wr.heap.size kk (.int .i64 ek) (.slice e1a e1n e1c) (.slice e2a e2n e2c) (.slice e3a e3n e3c) (.int .i64 fk) (.slice f1a f1n f1c) (.slice f2a f2n f2c) (.slice f3a f3n f3c) (.slice ra rn rc) (.slice sa sn sc) (.slice aa an ac) (.slice ba bn bc) := by rw [hv0]; exact BoxA.new _ wr _ _ _ _ _ _ _ _ _ _ _ _ _
          have HRd : Hid (RdA lo hi v0 dp (.int .i64 ek) (.slice e1a e1n e1c) (.slice e2a e2n e2c) (.slice e3a e3n e3c) (.int .i64 fk) (.slice f1a f1n f1c) (.slice f2a f2n f2c) (.slice f3a f3n f3c) ra rn rc sa sn sc aa an ac ba bn bc x) := hrd.below hbv (by omega)
          have HOv : Hid (OwnB w1.heap.size v0 ov (textK (xs.take j))) := HO.out.below hbv (Nat.le_refl _)
          obtain ⟨m0, m1, m2, m3, m4, m5, m6, m7, m8, m9, m10, m11, m12⟩ := hBA.cells
          clear hK hc hrd hO hbel hx hkk hokx hv0 hbv hBA
          go_wp2_with fail
          rw [← HV0.out]
          refine (addAx_any HRd.out (by omega) (by omega) HOx.out kk HKk.out HOv.out (by have := HTl.out; omega)).mono ?_
          rintro e w2 ⟨v1, rfl, hO1, hK1⟩
          have HO1 : Hid (OwnB w1.heap.size w2 v1 (textK (xs.take j) ++ axSay x)) := hO1
          have HB2 : Hid (Below w1.heap.size w1 w2) := HBv.out.trans hK1.1
          have hs2 := HB2.out.size
          have hl1 : (textK (xs.take j) ++ axSay x).length ≤ 9008 := by have := HTl.out; rw [List.length_append]; omega
          obtain ⟨m, hm⟩ : ∃ m, m = (textK (xs.take j) ++ axSay x).length := ⟨_, rfl⟩
          have HM : Hid (m = (textK (xs.take j) ++ axSay x).length) := hm
          rw [← hm] at hl1
          have HOr : Hid ((w2.alloc (.cells #[.int .u8 10] 5)).ownsRow w1.heap.size 5 1 v1 m ((textK (xs.take j) ++ axSay x).map (Value.int .u8))) := by
            have := (HO1.out.below ((Below.refl w2.heap.size w2).alloc (Nat.le_refl _) (.cells #[.int .u8 10] 5)) (Nat.le_refl _))
            unfold OwnB at this
            rw [← hm] at this
            exact this
          clear hO1 hK1 q0 q1 q2 q3 q4 q5 q6 q7 q8 q9 q10 q11 q12 m0 m1 m2 m3 m4 m5 m6 m7 m8 m9 m10 m11 m12 hm
          go_wp2_with (first
            | (at_builtin; refine wpList_append_own _ rfl (.tmp 18) (.tmp 19) 22 rfl w1.heap.size 5 j0 (.int .u8 0) 1 1 Try.underlying22 hj0 hy0 hy1 hy2 rfl (by decide) v1 m ((textK (xs.take j) ++ axSay x).map (Value.int .u8)) rfl HOr.out ⟨w2.heap.size, 0, none⟩ 1 1 [.int .u8 10] rfl rfl (cell_one_new _ _ _) (by simp [Value.oneCell']) (by unfold maxLen; omega) (by omega) (by simp; omega) ?_; intro v3 w3 hown3 hgrow3 hnil3) | fail)
          go_roundw
          case rel =>
            have hO2 : OwnB w1.heap.size (w2.alloc (.cells #[.int .u8 10] 5)) v1 (textK (xs.take j) ++ axSay x) := HO1.out.below ((Below.refl w2.heap.size w2).alloc (Nat.le_refl _) _) (Nat.le_refl _)
            have hb3 : Below w1.heap.size w1 w3 := (HB2.out.alloc hs2 _).grown hgrow3 (by simp; omega) (fun g hg => (World.ownsRow.lt hO2 g hg).1)
            refine ⟨j + 1, v3, by omega, by go_num, rfl, ?_, hb3⟩
            rw [HSt.out]
            unfold OwnB
            have e : (textK (xs.take j) ++ axSay x ++ [10]).length = m + 1 := by rw [List.length_append, ← HM.out]; rfl
            rw [e, List.map_append]
            exact hown3
          case measure => simp [intOf]; omega
      · have HE2 : Hid (textK xs = textK (xs.take j)) := by unfold Hid; rw [List.take_of_length_le (by rw [HL.out]; omega)]
        clear hbel hO
        go_wp2_with fail
        go_ret
        exact ⟨ov, rfl, by rw [HE.out, HE2.out]; exact ownB_mono HO.out HB1.out.size, HB1.out.trans (HB.out.mono HB1.out.size)⟩
end

section
open Go.RowKit

set_option maxRecDepth 100000 in
set_option maxHeartbeats 8000000 in
theorem markAxs_any {a : Option Addr} {n cap : Nat} {xs : List AX} {dp : Nat} {w : World} {lo hi : Nat} (h : RdK lo hi w dp a n cap xs) (hhi : hi ≤ w.heap.size) (hF : Free lo hi w) (hbk : bulkK xs ≤ 1048576) :
    Calls Try.prog 110 #[.slice a n cap, .int .i64 1] w fun e w' => ∃ q : Int, e = .returned (.int .i64 q) ∧ 0 ≤ q ∧ MarkRel lo hi w w' := by
  have HK : Hid (RdK lo hi w dp a n cap xs) := h
  have HL : Hid (xs.length = n) := h.len
  have hf := h.fits
  have HBk : Hid (bulkK xs ≤ 1048576) := hbk
  have hn1 : n ≤ 1048576 := by have := length_le_bulkK xs; have := h.len; omega
  have HFr : Hid (∀ W, MarkRel lo hi w W → Free lo hi W) := fun W hW => hF.mark hW hhi
  have HSz : Hid (∀ W, MarkRel lo hi w W → hi ≤ W.heap.size) := fun W hW => Nat.le_trans hhi hW.size
  clear h hF hbk
  go_enter Try.func110, Try.ntmps110
  go_wp2_with fail
  go_loopw [1, 5] (fun k i wr => ∃ (j : Nat) (q : Int), j ≤ n ∧ i = .int .i64 j ∧ k = .int .i64 q ∧ 1 ≤ q ∧ q ≤ 1 + 3 * (j : Nat) + (bulkK (xs.take j) : Nat) ∧ MarkRel lo hi w wr) (fun _ i _ => n - (intOf i).toNat)
  case atStart => exact ⟨0, 1, Nat.zero_le _, rfl, rfl, by omega, by simp [bulkK], MarkRel.refl _ _ _⟩
  case round =>
    obtain ⟨j, q, hj, rfl, rfl, hq1, hq2, hmr⟩ := hrel
    have HM0 : Hid (MarkRel lo hi w wr) := hmr
    have hq3 : q ≤ 4194305 := by have := bulkK_take_le xs j; have := HBk.out; omega
    have HQ : Hid (q ≤ 1 + 3 * (j : Nat) + (bulkK (xs.take j) : Nat)) := hq2
    clear hq2
    by_cases hlt : j < n
    · rcases HK.out.cells with hz | ⟨b, off, e1, hblo, hbhi, hc⟩
      · omega
      · subst e1
        obtain ⟨c0, c1, c2, c3, d0, d1, d2, d3, ra, rn, rc, sa, sn, sc, aa, an, ac, ba, bn, bc, q0, q1, q2, q3, q4, q5, q6, q7, q8, q9, q10, q11, q12, hrd⟩ := hc j hlt
        have HT : Hid (bulkK (xs.take (j + 1)) = bulkK (xs.take j) + 1 + (xs.getD j AX.zero).bulk) := bulkK_take xs j (by rw [HL.out]; exact hlt)
        have HXb : Hid ((xs.getD j AX.zero).bulk ≤ 1048576) := by have := bulkK_getD xs j (by rw [HL.out]; exact hlt); have := HBk.out; unfold Hid; omega
        obtain ⟨x, hx⟩ : ∃ x, x = xs.getD j AX.zero := ⟨_, rfl⟩
        rw [← hx] at hrd HT HXb q0
        have hcd := hrd.c
        have hdd := hrd.d
        cases dp with
        | zero => exact hcd.elim
        | succ d =>
          obtain ⟨n1a, n1n, n1c, r1a, r1n, r1c, k1a, k1n, k1c, hv, hn1', hr1', hk1'⟩ := hcd
          simp only [Value.agg.injEq, Array.mk.injEq, List.cons.injEq, and_true] at hv
          obtain ⟨rfl, rfl, rfl, rfl⟩ := hv
          obtain ⟨n2a, n2n, n2c, r2a, r2n, r2c, k2a, k2n, k2c, hv, hn2', hr2', hk2'⟩ := hdd
          simp only [Value.agg.injEq, Array.mk.injEq, List.cons.injEq, and_true] at hv
          obtain ⟨rfl, rfl, rfl, rfl⟩ := hv
          have hbt : x.c.name.length + x.c.role.length + bulks x.c.kids + (x.d.name.length + x.d.role.length + bulks x.d.kids) + x.r.length + x.s.length + x.a.length + x.b.length = x.bulk := by have := x.c.bulk_eq; have := x.d.bulk_eq; unfold AX.bulk; omega
          have L1 := hn1'.len
          have L2 := hr1'.len
          have L4 := hn2'.len
          have L5 := hr2'.len
          have L7 := hrd.r.len
          have L8 := hrd.s.len
          have L9 := hrd.a.len
          have L10 := hrd.b.len
          obtain ⟨u1, hu1⟩ : ∃ u : Nat, u = bulks x.c.kids := ⟨_, rfl⟩
          obtain ⟨u2, hu2⟩ : ∃ u : Nat, u = bulks x.d.kids := ⟨_, rfl⟩
          have HU1 : Hid (u1 = bulks x.c.kids) := hu1
          have HU2 : Hid (u2 = bulks x.d.kids) := hu2
          obtain ⟨tb, htb⟩ : ∃ t : Nat, t = x.bulk := ⟨_, rfl⟩
          rw [← htb] at HT HXb hbt
          have hxb : tb ≤ 1048576 := HXb.out
          have hsum : n1n + r1n + u1 + (n2n + r2n + u2) + rn + sn + an + bn = tb := by rw [← L1, ← L2, ← L4, ← L5, ← L7, ← L8, ← L9, ← L10, hu1, hu2]; exact hbt
          have Hn1 : Hid (∀ W, MarkRel lo hi w W → ShB lo hi W n1a n1n n1c) := fun W hW => hn1'.sh.mark hW
          have Hr1 : Hid (∀ W, MarkRel lo hi w W → ShB lo hi W r1a r1n r1c) := fun W hW => hr1'.sh.mark hW
          have Hn2 : Hid (∀ W, MarkRel lo hi w W → ShB lo hi W n2a n2n n2c) := fun W hW => hn2'.sh.mark hW
          have Hr2 : Hid (∀ W, MarkRel lo hi w W → ShB lo hi W r2a r2n r2c) := fun W hW => hr2'.sh.mark hW
          have Hr : Hid (∀ W, MarkRel lo hi w W → ShB lo hi W ra rn rc) := fun W hW => hrd.r.sh.mark hW
          have Hs : Hid (∀ W, MarkRel lo hi w W → ShB lo hi W sa sn sc) := fun W hW => hrd.s.sh.mark hW
          have Ha : Hid (∀ W, MarkRel lo hi w W → ShB lo hi W aa an ac) := fun W hW => hrd.a.sh.mark hW
          have Hb : Hid (∀ W, MarkRel lo hi w W → ShB lo hi W ba bn bc) := fun W hW => hrd.b.sh.mark hW
          have Hk1 : Hid (∀ W, MarkRel lo hi w W → RdL (ShC lo hi W d) lo hi W k1a k1n k1c x.c.kids) := fun W hW => (hk1'.imp (fun _ _ h => h.sh) (Same.refl _ _ _) (Nat.le_refl _) (Nat.le_refl _)).mark hW
          have Hk2 : Hid (∀ W, MarkRel lo hi w W → RdL (ShC lo hi W d) lo hi W k2a k2n k2c x.d.kids) := fun W hW => (hk2'.imp (fun _ _ h => h.sh) (Same.refl _ _ _) (Nat.le_refl _) (Nat.le_refl _)).mark hW
          have HAt : Hid (∀ W, MarkRel lo hi w W → (∃ z, W.cell? ⟨b, off + j * 13, none⟩ = some (.int .i64 z)) ∧ (∃ z, W.cell? ⟨b, off + j * 13 + 1, none⟩ = some (.int .i64 z)) ∧ W.cell? ⟨b, off + j * 13 + 2, none⟩ = some (.slice n1a n1n n1c) ∧ W.cell? ⟨b, off + j * 13 + 3, none⟩ = some (.slice r1a r1n r1c) ∧ W.cell? ⟨b, off + j * 13 + 4, none⟩ = some (.slice k1a k1n k1c) ∧ (∃ z, W.cell? ⟨b, off + j * 13 + 5, none⟩ = some (.int .i64 z)) ∧ W.cell? ⟨b, off + j * 13 + 6, none⟩ = some (.slice n2a n2n n2c) ∧ W.cell? ⟨b, off + j * 13 + 7, none⟩ = some (.slice r2a r2n r2c) ∧ W.cell? ⟨b, off + j * 13 + 8, none⟩ = some (.slice k2a k2n k2c) ∧ W.cell? ⟨b, off + j * 13 + 9, none⟩ = some (.slice ra rn rc) ∧ W.cell? ⟨b, off + j * 13 + 10, none⟩ = some (.slice sa sn sc) ∧ W.cell? ⟨b, off + j * 13 + 11, none⟩ = some (.slice aa an ac) ∧ W.cell? ⟨b, off + j * 13 + 12, none⟩ = some (.slice ba bn bc) ∧ (∀ o, W.frozen? ⟨b, o, none⟩ = false)) := by
            intro W hW
            have t : ∀ (p : Addr) (v : Value), w.cell? p = some v → (∀ kd m, v ≠ .int kd m) → W.cell? p = some v := fun p v h1 h2 => hW.keep h1 h2
            exact ⟨hW.int q0, hW.int q1, t _ _ q2 (by simp), t _ _ q3 (by simp), t _ _ q4 (by simp), hW.int q5, t _ _ q6 (by simp), t _ _ q7 (by simp), t _ _ q8 (by simp), t _ _ q9 (by simp), t _ _ q10 (by simp), t _ _ q11 (by simp), t _ _ q12 (by simp), fun o => HFr.out W hW b hblo hbhi o⟩
          have HSet : Hid (∀ W m z k, MarkRel lo hi w W → W.cell? ⟨b, m, none⟩ = some (.int .i64 z) → MarkRel lo hi w (W.setCell ⟨b, m, none⟩ (.int .i64 k))) := fun W m z k hW hc => hW.trans (MarkRel.set hc hblo hbhi k)
          have hji : (j : Int) < (n : Int) := by omega
          obtain ⟨⟨z0, e0⟩, ⟨z1, e1⟩, e2, e3, e4, ⟨z5, e5⟩, e6, e7, e8, e9, e10, e11, e12, ef⟩ := HAt.out _ HM0.out
          have HM1 : Hid (MarkRel lo hi w ((wr.setCell ⟨b, off + j * 13, none⟩ (.int .i64 q)).setCell ⟨b, off + j * 13 + 1, none⟩ (.int .i64 (q + 1)))) := HSet.out _ _ z1 _ (HSet.out _ _ z0 _ HM0.out e0) (by rw [World.cell?_setCell_other _ _ _ _ (by simp)]; exact e1)
          obtain ⟨W1, hW1⟩ : ∃ W1, W1 = (wr.setCell ⟨b, off + j * 13, none⟩ (.int .i64 q)).setCell ⟨b, off + j * 13 + 1, none⟩ (.int .i64 (q + 1)) := ⟨_, rfl⟩
          have HW1 : Hid (W1 = (wr.setCell ⟨b, off + j * 13, none⟩ (.int .i64 q)).setCell ⟨b, off + j * 13 + 1, none⟩ (.int .i64 (q + 1))) := hW1
          rw [← hW1] at HM1
          clear hrd hc hmr hx hn1' hr1' hk1' hn2' hr2' hk2' q0 q1 q2 q3 q4 q5 q6 q7 q8 q9 q10 q11 q12 L1 L2 L4 L5 L7 L8 L9 L10 hu1 hu2 hbt htb hW1
          go_wp2_with fail
          rw [← HW1.out]
          refine (markB_any n1a n1n n1c (q + 1 + 1) W1 (Hn1.out _ HM1.out) (HFr.out _ HM1.out) (by omega) (by omega)).mono ?_
          rintro e W2 ⟨rfl, hm⟩
          have HM2 : Hid (MarkRel lo hi w W2) := HM1.out.trans hm
          clear hm e0 e1 e2 e3 e4 e5 e6 e7 e8 e9 e10 e11 e12 ef
          obtain ⟨⟨z0, e0⟩, ⟨z1, e1⟩, e2, e3, e4, ⟨z5, e5⟩, e6, e7, e8, e9, e10, e11, e12, ef⟩ := HAt.out _ HM2.out
          go_wp2_with fail
          refine (markB_any r1a r1n r1c (q + 1 + 1 + n1n) W2 (Hr1.out _ HM2.out) (HFr.out _ HM2.out) (by omega) (by omega)).mono ?_
          rintro e W3 ⟨rfl, hm⟩
          have HM3 : Hid (MarkRel lo hi w W3) := HM2.out.trans hm
          clear hm e0 e1 e2 e3 e4 e5 e6 e7 e8 e9 e10 e11 e12 ef
          obtain ⟨⟨z0, e0⟩, ⟨z1, e1⟩, e2, e3, e4, ⟨z5, e5⟩, e6, e7, e8, e9, e10, e11, e12, ef⟩ := HAt.out _ HM3.out
          go_wp2_with fail
          refine (mkL_any d k1a k1n k1c x.c.kids (q + 1 + 1 + n1n + r1n) W3 lo hi (Hk1.out _ HM3.out) (HSz.out _ HM3.out) (HFr.out _ HM3.out) (by rw [← HU1.out]; omega) (by omega) (by rw [← HU1.out]; omega)).mono ?_
          rintro e W4 ⟨rfl, hm⟩
          rw [← HU1.out]
          have HM4 : Hid (MarkRel lo hi w W4) := HM3.out.trans hm
          clear hm e0 e1 e2 e3 e4 e5 e6 e7 e8 e9 e10 e11 e12 ef
          obtain ⟨⟨z0, e0⟩, ⟨z1, e1⟩, e2, e3, e4, ⟨z5, e5⟩, e6, e7, e8, e9, e10, e11, e12, ef⟩ := HAt.out _ HM4.out
          have HM5 : Hid (MarkRel lo hi w (W4.setCell ⟨b, off + j * 13 + 5, none⟩ (.int .i64 (q + 1 + 1 + n1n + r1n + u1)))) := HSet.out _ _ z5 _ HM4.out e5
          obtain ⟨W5, hW5⟩ : ∃ W5, W5 = W4.setCell ⟨b, off + j * 13 + 5, none⟩ (.int .i64 (q + 1 + 1 + n1n + r1n + u1)) := ⟨_, rfl⟩
          have HW5 : Hid (W5 = W4.setCell ⟨b, off + j * 13 + 5, none⟩ (.int .i64 (q + 1 + 1 + n1n + r1n + u1))) := hW5
          rw [← hW5] at HM5
          clear hW5
          go_wp2_with fail
          rw [← HW5.out]
          refine (markB_any n2a n2n n2c (q + 1 + 1 + n1n + r1n + u1 + 1) W5 (Hn2.out _ HM5.out) (HFr.out _ HM5.out) (by omega) (by omega)).mono ?_
          rintro e W6 ⟨rfl, hm⟩
          have HM6 : Hid (MarkRel lo hi w W6) := HM5.out.trans hm
          clear hm e0 e1 e2 e3 e4 e5 e6 e7 e8 e9 e10 e11 e12 ef
          obtain ⟨⟨z0, e0⟩, ⟨z1, e1⟩, e2, e3, e4, ⟨z5, e5⟩, e6, e7, e8, e9, e10, e11, e12, ef⟩ := HAt.out _ HM6.out
          go_wp2_with fail
          refine (markB_any r2a r2n r2c (q + 1 + 1 + n1n + r1n + u1 + 1 + n2n) W6 (Hr2.out _ HM6.out) (HFr.out _ HM6.out) (by omega) (by omega)).mono ?_
          rintro e W7 ⟨rfl, hm⟩
          have HM7 : Hid (MarkRel lo hi w W7) := HM6.out.trans hm
          clear hm e0 e1 e2 e3 e4 e5 e6 e7 e8 e9 e10 e11 e12 ef
          obtain ⟨⟨z0, e0⟩, ⟨z1, e1⟩, e2, e3, e4, ⟨z5, e5⟩, e6, e7, e8, e9, e10, e11, e12, ef⟩ := HAt.out _ HM7.out
          go_wp2_with fail
          refine (mkL_any d k2a k2n k2c x.d.kids (q + 1 + 1 + n1n + r1n + u1 + 1 + n2n + r2n) W7 lo hi (Hk2.out _ HM7.out) (HSz.out _ HM7.out) (HFr.out _ HM7.out) (by rw [← HU2.out]; omega) (by omega) (by rw [← HU2.out]; omega)).mono ?_
          rintro e W8 ⟨rfl, hm⟩
          rw [← HU2.out]
          have HM8 : Hid (MarkRel lo hi w W8) := HM7.out.trans hm
          clear hm e0 e1 e2 e3 e4 e5 e6 e7 e8 e9 e10 e11 e12 ef
          obtain ⟨⟨z0, e0⟩, ⟨z1, e1⟩, e2, e3, e4, ⟨z5, e5⟩, e6, e7, e8, e9, e10, e11, e12, ef⟩ := HAt.out _ HM8.out
          go_wp2_with fail
          refine (markB_any ra rn rc (q + 1 + 1 + n1n + r1n + u1 + 1 + n2n + r2n + u2) W8 (Hr.out _ HM8.out) (HFr.out _ HM8.out) (by omega) (by omega)).mono ?_
          rintro e W9 ⟨rfl, hm⟩
          have HM9 : Hid (MarkRel lo hi w W9) := HM8.out.trans hm
          clear hm e0 e1 e2 e3 e4 e5 e6 e7 e8 e9 e10 e11 e12 ef
          obtain ⟨⟨z0, e0⟩, ⟨z1, e1⟩, e2, e3, e4, ⟨z5, e5⟩, e6, e7, e8, e9, e10, e11, e12, ef⟩ := HAt.out _ HM9.out
          go_wp2_with fail
          refine (markB_any sa sn sc (q + 1 + 1 + n1n + r1n + u1 + 1 + n2n + r2n + u2 + rn) W9 (Hs.out _ HM9.out) (HFr.out _ HM9.out) (by omega) (by omega)).mono ?_
          rintro e W10 ⟨rfl, hm⟩
          have HM10 : Hid (MarkRel lo hi w W10) := HM9.out.trans hm
          clear hm e0 e1 e2 e3 e4 e5 e6 e7 e8 e9 e10 e11 e12 ef
          obtain ⟨⟨z0, e0⟩, ⟨z1, e1⟩, e2, e3, e4, ⟨z5, e5⟩, e6, e7, e8, e9, e10, e11, e12, ef⟩ := HAt.out _ HM10.out
          go_wp2_with fail
          refine (markB_any aa an ac (q + 1 + 1 + n1n + r1n + u1 + 1 + n2n + r2n + u2 + rn + sn) W10 (Ha.out _ HM10.out) (HFr.out _ HM10.out) (by omega) (by omega)).mono ?_
          rintro e W11 ⟨rfl, hm⟩
          have HM11 : Hid (MarkRel lo hi w W11) := HM10.out.trans hm
          clear hm e0 e1 e2 e3 e4 e5 e6 e7 e8 e9 e10 e11 e12 ef
          obtain ⟨⟨z0, e0⟩, ⟨z1, e1⟩, e2, e3, e4, ⟨z5, e5⟩, e6, e7, e8, e9, e10, e11, e12, ef⟩ := HAt.out _ HM11.out
          go_wp2_with fail
          refine (markB_any ba bn bc (q + 1 + 1 + n1n + r1n + u1 + 1 + n2n + r2n + u2 + rn + sn + an) W11 (Hb.out _ HM11.out) (HFr.out _ HM11.out) (by omega) (by omega)).mono ?_
          rintro e W12 ⟨rfl, hm⟩
          have HM12 : Hid (MarkRel lo hi w W12) := HM11.out.trans hm
          clear hm e0 e1 e2 e3 e4 e5 e6 e7 e8 e9 e10 e11 e12 ef
          obtain ⟨⟨z0, e0⟩, ⟨z1, e1⟩, e2, e3, e4, ⟨z5, e5⟩, e6, e7, e8, e9, e10, e11, e12, ef⟩ := HAt.out _ HM12.out
          have HQ' : Hid (q + 1 + 1 + n1n + r1n + u1 + 1 + n2n + r2n + u2 + rn + sn + an + bn ≤ 1 + 3 * ((j + 1 : Nat) : Int) + (bulkK (xs.take (j + 1)) : Nat)) := by have := HT.out; have := HQ.out; unfold Hid; omega
          go_wp2_with fail
          go_roundw
          case rel => exact ⟨j + 1, _, by omega, by go_num, rfl, by omega, HQ'.out, HM12.out⟩
          case measure => simp [intOf]; omega
    · clear hmr
      go_wp2_with fail
      go_ret
      exact ⟨q, rfl, by omega, HM0.out⟩

set_option maxRecDepth 100000 in
set_option maxHeartbeats 1000000 in
theorem markKb_any {a : Option Addr} {n cap : Nat} {xs : List AX} {dp : Nat} {w : World} {lo hi : Nat} (h : RdK lo hi w dp a n cap xs) (hhi : hi ≤ w.heap.size) (hF : Free lo hi w) (hbk : bulkK xs ≤ 1048576) :
    Calls Try.prog 43 #[.agg #[.slice a n cap], .int .i64 1] w fun e w' => ∃ q : Int, e = .returned (.int .i64 q) ∧ 0 ≤ q ∧ MarkRel lo hi w w' := by
  obtain ⟨W0, hW0⟩ : ∃ W0, W0 = w.alloc (.cells #[.slice a n cap] 66) := ⟨_, rfl⟩
  have HW0 : Hid (W0 = w.alloc (.cells #[.slice a n cap] 66)) := hW0
  have hb0 : Below w.heap.size w W0 := by rw [hW0]; exact (Below.refl _ _).alloc (Nat.le_refl _) _
  have HB0 : Hid (Below w.heap.size w W0) := hb0
  have HK : Hid (RdK lo hi W0 dp a n cap xs) := h.below hb0 hhi
  have HF : Hid (Free lo hi W0) := hF.same (Same.of_below hb0 hhi)
  clear h hb0 hW0 hF
  go_enter Try.func43, Try.ntmps43
  go_wp2_with fail
  rw [← HW0.out]
  refine (markAxs_any HK.out (Nat.le_trans hhi HB0.out.size) HF.out hbk).mono ?_
  rintro e w1 ⟨q, rfl, hq, hm⟩
  have HM : Hid (MarkRel lo hi w w1) := (MarkRel.of_below HB0.out).trans hm
  clear hm
  go_wp2_with fail
  go_ret
  exact ⟨q, rfl, hq, HM.out⟩
end

end Go.Proofs.Ytodpaihndpjbfaa
