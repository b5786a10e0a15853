/- How many parts a concept has: the model's count and the program's, a contract each, for every concept in memory. -/
import Derived.Test.YtbjkokndnfmcpahConSpec2
import Derived.Test.YtbjkokndnfmcpahConOkImpl
import Derived.Test.YtbjkokndnfmcpahConTo
namespace Go.Proofs.Ytbjkokndnfmcpah
open Go.RowKit Go.Shelf

attribute [local go_sem] Oper.semAt_some

mutual
def CN.cnt : CN → Nat
  | .mk _ _ _ ks => 1 + cnts ks
def cnts : List CN → Nat
  | [] => 0
  | c :: cs => c.cnt + cnts cs
end

theorem CN.cnt_eq (c : CN) : c.cnt = 1 + cnts c.kids := by cases c; rw [CN.cnt]; rfl

theorem cnts_append (xs ys : List CN) : cnts (xs ++ ys) = cnts xs + cnts ys := by
  induction xs with
  | nil => simp [cnts]
  | cons x xs ih => simp only [List.cons_append, cnts, ih]; omega

theorem cnts_take_succ (cs : List CN) (k : Nat) (h : k < cs.length) : cnts (cs.take (k + 1)) = cnts (cs.take k) + (cs.getD k CN.zero).cnt := by
  rw [take_succ_getD cs CN.zero k h, cnts_append]
  simp only [cnts]
  omega

mutual
theorem CN.cnt_le : ∀ c : CN, c.cnt ≤ 1 + c.bulk
  | .mk k n r ks => by rw [CN.cnt, CN.bulk]; have := cnts_le ks; omega
theorem cnts_le : ∀ cs : List CN, cnts cs ≤ bulks cs
  | [] => by simp [cnts]
  | c :: cs => by rw [cnts, bulks]; have := c.cnt_le; have := cnts_le cs; omega
end

mutual
theorem parts_length : ∀ (c : CN) (deep : Nat), (parts c deep).length = c.cnt
  | .mk k n r ks, deep => by rw [parts, CN.cnt, List.length_cons, partsL_length ks (deep + 1)]; omega
theorem partsL_length : ∀ (cs : List CN) (deep : Nat), (partsL cs deep).length = cnts cs
  | [], _ => by rw [partsL, cnts]; rfl
  | c :: cs, deep => by rw [partsL, cnts, List.length_append, parts_length c deep, partsL_length cs deep]
end

def CntC (d : Nat) : Prop := ∀ (v : Value) (c : CN) (w : World) (lo hi : Nat), RdC lo hi w d v c → hi ≤ w.heap.size → c.bulk ≤ 1048576 →
  Calls Try.prog 47 #[v] w fun e w' => e = .returned (.int .i64 (c.cnt : Nat)) ∧ Below w.heap.size w w'

set_option maxRecDepth 100000 in
set_option maxHeartbeats 1000000 in
theorem cntC_of {d : Nat} (H : CntC d) : CntC (d + 1) := by
  intro v c w lo hi h hhi hbk
  obtain ⟨na, nn, nc, ra, rn, rc, ka, kn, kc, rfl, _, _, hk⟩ := h
  have HKL : Hid (c.kids.length = kn) := hk.len
  have hkf := hk.fits
  have HC : Hid (c.cnt = 1 + cnts c.kids) := c.cnt_eq
  have HBk : Hid (bulks c.kids ≤ 1048576) := by have := c.bulk_eq; unfold Hid; omega
  obtain ⟨k, hkd⟩ : ∃ k, k = c.kind := ⟨_, rfl⟩
  rw [← hkd]
  have HK : Hid (RdL (RdC lo hi w d) lo hi w ka kn kc c.kids) := hk
  have HB0 : Hid (Below w.heap.size w (w.alloc (.cells #[.int .i64 k, .slice na nn nc, .slice ra rn rc, .slice ka kn kc] 29))) := (Below.refl _ _).alloc (Nat.le_refl _) _
  have HBx0 : Hid (BoxC (w.alloc (.cells #[.int .i64 k, .slice na nn nc, .slice ra rn rc, .slice ka kn kc] 29)) w.heap.size (.int .i64 k) (.slice na nn nc) (.slice ra rn rc) (.slice ka kn kc)) := BoxC.new w _ _ _ _
  clear hk hkd hbk
  go_enter Try.func47, Try.ntmps47
  go_wp2_with fail
  go_loopw [3, 4] (fun l i wr => ∃ (j : Nat), j ≤ kn ∧ i = .int .i64 j ∧ l = .int .i64 (1 + cnts (c.kids.take j) : Nat) ∧ Below w.heap.size w wr ∧ BoxC wr w.heap.size (.int .i64 k) (.slice na nn nc) (.slice ra rn rc) (.slice ka kn kc)) (fun _ i _ => kn - (intOf i).toNat)
  case atStart => exact ⟨0, Nat.zero_le _, rfl, by simp [cnts], HB0.out, HBx0.out⟩
  case round =>
    obtain ⟨j, hj, rfl, rfl, hbel, hbox⟩ := hrel
    obtain ⟨q0, q1, q2, q3⟩ := hbox.cells
    have HB2 : Hid (Below w.heap.size w wr) := hbel
    have HBox2 : Hid (BoxC wr w.heap.size (.int .i64 k) (.slice na nn nc) (.slice ra rn rc) (.slice ka kn kc)) := hbox
    have hcl : cnts (c.kids.take j) ≤ 1048576 := by
      have h1 := cnts_le (c.kids.take j)
      have h2 := bulks_take_le c.kids j
      have := HBk.out
      omega
    obtain ⟨t, ht⟩ : ∃ t, t = cnts (c.kids.take j) := ⟨_, rfl⟩
    rw [← ht] at hcl ⊢
    have HT : Hid (t = cnts (c.kids.take j)) := ht
    clear ht
    by_cases hlt : j < kn
    · have hjl : j < c.kids.length := by rw [HKL.out]; exact hlt
      have hR := HK.out.same (Same.of_below hbel hhi)
      rcases hR.cells with hz | ⟨b, off, e1, _, _, hc⟩
      · omega
      · subst e1
        obtain ⟨v0, v1, v2, v3, c0, c1, c2, c3, hr⟩ := hc j hlt
        have HKid : Hid (RdC lo hi wr d (.agg #[v0, v1, v2, v3]) (c.kids.getD j CN.zero)) := hr
        have hji : (j : Int) < (kn : Int) := by omega
        have hkb := getD_bulk_le c.kids j hjl
        have HKb : Hid ((c.kids.getD j CN.zero).bulk ≤ 1048576) := by have := HBk.out; unfold Hid; omega
        obtain ⟨m, hm⟩ : ∃ m, m = (c.kids.getD j CN.zero).cnt := ⟨_, rfl⟩
        have HM : Hid (m = (c.kids.getD j CN.zero).cnt) := hm
        have hm1 : m ≤ 1048577 := by have := (c.kids.getD j CN.zero).cnt_le; have := HKb.out; omega
        have HS : Hid (cnts (c.kids.take (j + 1)) = t + m) := by unfold Hid; rw [cnts_take_succ _ _ hjl, HT.out, hm]
        clear hR hc hr hbel hbox hkb hm
        go_wp2_with fail
        refine (H (.agg #[v0, v1, v2, v3]) (c.kids.getD j CN.zero) wr lo hi HKid.out (Nat.le_trans hhi HB2.out.size) HKb.out).mono ?_
        rintro e w' ⟨rfl, hb'⟩
        rw [← HM.out]
        have HB3 : Hid (Below w.heap.size w w') := HB2.out.trans (hb'.mono HB2.out.size)
        have HBox3 : Hid (BoxC w' w.heap.size (.int .i64 k) (.slice na nn nc) (.slice ra rn rc) (.slice (some ⟨b, off, none⟩) kn kc)) := HBox2.out.below hb' HBox2.out.lt
        clear hb'
        go_wp2_with fail
        go_roundw
        case rel => exact ⟨j + 1, by omega, by go_num, by rw [HS.out]; congr 1; push_cast; omega, HB3.out, HBox3.out⟩
        case measure => simp [intOf]; omega
    · have HE : Hid (c.cnt = 1 + t) := by unfold Hid; rw [HC.out, HT.out, List.take_of_length_le (by rw [HKL.out]; omega)]
      clear hbel hbox
      go_wp2_with fail
      go_ret
      exact ⟨ri (by rw [HE.out]), HB2.out⟩

theorem cntC_any : ∀ d, CntC d
  | 0 => fun _ _ _ _ _ h => h.elim
  | d + 1 => cntC_of (cntC_any d)

/-- How many parts; 0: it may not be. -/
def partsN (c : CN) : Int := if conOk c = true then (c.cnt : Nat) else 0

set_option maxHeartbeats 1000000 in
theorem specParts_any {d : Nat} {v : Value} {c : CN} {w : World} {lo hi : Nat} (h : RdC lo hi w d v c) (hhi : hi ≤ w.heap.size) (hbk : c.bulk ≤ 1048576) :
    Calls Try.prog 18 #[v] w fun e w' => e = .returned (.int .i64 (partsN c)) ∧ Below w.heap.size w w' := by
  have HRd : Hid (RdC lo hi w d v c) := h
  obtain ⟨k, na, nn, nc, ra, rn, rc, ka, kn, kc, rfl⟩ := h.shape
  have hb0 : Below w.heap.size w (w.alloc (.cells #[.int .i64 k, .slice na nn nc, .slice ra rn rc, .slice ka kn kc] 29)) := (Below.refl _ _).alloc (Nat.le_refl _) _
  have HB0 : Hid (Below w.heap.size w (w.alloc (.cells #[.int .i64 k, .slice na nn nc, .slice ra rn rc, .slice ka kn kc] 29))) := hb0
  have HR0 : Hid (RdC lo hi (w.alloc (.cells #[.int .i64 k, .slice na nn nc, .slice ra rn rc, .slice ka kn kc] 29)) d (.agg #[.int .i64 k, .slice na nn nc, .slice ra rn rc, .slice ka kn kc]) c) := HRd.out.below hb0 hhi
  have HBx0 : Hid (BoxC (w.alloc (.cells #[.int .i64 k, .slice na nn nc, .slice ra rn rc, .slice ka kn kc] 29)) w.heap.size (.int .i64 k) (.slice na nn nc) (.slice ra rn rc) (.slice ka kn kc)) := BoxC.new w _ _ _ _
  clear hb0 h
  go_enter Try.func18, Try.ntmps18
  go_wp2_with fail
  refine (specConOk_any HR0.out (Nat.le_trans hhi HB0.out.size)).mono ?_
  rintro e w1 ⟨rfl, hb1⟩
  have HB1 : Hid (Below w.heap.size w w1) := HB0.out.trans (hb1.mono HB0.out.size)
  have HBx1 : Hid (BoxC w1 w.heap.size (.int .i64 k) (.slice na nn nc) (.slice ra rn rc) (.slice ka kn kc)) := HBx0.out.below hb1 HBx0.out.lt
  obtain ⟨q0, q1, q2, q3⟩ := HBx1.out.cells
  clear hb1
  cases hok : conOk c
  · have HE : Hid (partsN c = 0) := by unfold Hid partsN; rw [hok]; rfl
    go_wp2_with fail
    go_ret
    exact ⟨ri HE.out.symm, HB1.out⟩
  · have HE : Hid (partsN c = (c.cnt : Nat)) := by unfold Hid partsN; rw [hok]; rfl
    go_wp2_with fail
    refine (cntC_any d _ c w1 lo hi (HRd.out.below HB1.out hhi) (Nat.le_trans hhi HB1.out.size) hbk).mono ?_
    rintro e w2 ⟨rfl, hb2⟩
    have HB2 : Hid (Below w.heap.size w w2) := HB1.out.trans (hb2.mono HB1.out.size)
    clear hb2
    go_wp2_with fail
    go_ret
    exact ⟨ri HE.out.symm, HB2.out⟩

set_option maxHeartbeats 1000000 in
theorem implParts_no {d : Nat} {v : Value} {c : CN} {w : World} {lo hi : Nat} (h : RdC lo hi w d v c) (hhi : hi ≤ w.heap.size) (hbk : c.bulk ≤ 1048576) (hok : conOk c = false) :
    Calls Try.prog 19 #[v] w fun e w' => e = .returned (.int .i64 (partsN c)) ∧ Below w.heap.size w w' := by
  have HRd : Hid (RdC lo hi w d v c) := h
  obtain ⟨k, na, nn, nc, ra, rn, rc, ka, kn, kc, rfl⟩ := h.shape
  have hb0 : Below w.heap.size w (w.alloc (.cells #[.int .i64 k, .slice na nn nc, .slice ra rn rc, .slice ka kn kc] 29)) := (Below.refl _ _).alloc (Nat.le_refl _) _
  have HB0 : Hid (Below w.heap.size w (w.alloc (.cells #[.int .i64 k, .slice na nn nc, .slice ra rn rc, .slice ka kn kc] 29))) := hb0
  have HR0 : Hid (RdC lo hi (w.alloc (.cells #[.int .i64 k, .slice na nn nc, .slice ra rn rc, .slice ka kn kc] 29)) d (.agg #[.int .i64 k, .slice na nn nc, .slice ra rn rc, .slice ka kn kc]) c) := HRd.out.below hb0 hhi
  have HE : Hid (partsN c = 0) := by unfold Hid partsN; rw [hok]; rfl
  clear hb0 h
  go_enter Try.func19, Try.ntmps19
  go_wp2_with fail
  refine (implConOk_any HR0.out (Nat.le_trans hhi HB0.out.size) hbk).mono ?_
  rintro e w1 ⟨rfl, hb1⟩
  rw [hok]
  have HB1 : Hid (Below w.heap.size w w1) := HB0.out.trans (hb1.mono HB0.out.size)
  clear hb1
  go_wp2_with fail
  go_ret
  exact ⟨ri HE.out.symm, HB1.out⟩

/-- Between two rounds of the count. -/
structure InvP {lo hi : Nat} {w0 : World} (s t : Nat) (w : World) (pre : List (Item lo hi w0)) (W : World) : Prop where
  cnt : Boxed W t 3 (.int .i64 (pre.length : Nat))
  bel : Below s w W

theorem InvP.own {lo hi : Nat} {w0 : World} {s t : Nat} {w : World} {B : Nat} (hB : s ≤ B) (ht : s ≤ t) : OwnFrom B (InvP (lo := lo) (hi := hi) (w0 := w0) s t w) := by
  rintro pre W W' row ⟨h1, h3⟩ hg hr
  have : s ≤ W.heap.size := by have := Boxed.lt h1; omega
  exact ⟨boxed_noncells h1 hg fun r e => (hr r e).2, h3.grown hg this fun k e => by have := (hr k e).1; omega⟩

set_option maxRecDepth 100000 in
set_option maxHeartbeats 2000000 in
theorem implParts_yes {d : Nat} {v : Value} {c : CN} {w : World} {lo hi : Nat} (h : RdC lo hi w d v c) (hhi : hi ≤ w.heap.size) (hbk : c.bulk ≤ 1048576) (hok : conOk c = true) :
    Calls Try.prog 19 #[v] w fun e w' => e = .returned (.int .i64 (partsN c)) ∧ Below w.heap.size w w' := by
  have HRd : Hid (RdC lo hi w d v c) := h
  obtain ⟨k, na, nn, nc, ra, rn, rc, ka, kn, kc, rfl⟩ := h.shape
  have hb0 : Below w.heap.size w (w.alloc (.cells #[.int .i64 k, .slice na nn nc, .slice ra rn rc, .slice ka kn kc] 29)) := (Below.refl _ _).alloc (Nat.le_refl _) _
  have HB0 : Hid (Below w.heap.size w (w.alloc (.cells #[.int .i64 k, .slice na nn nc, .slice ra rn rc, .slice ka kn kc] 29))) := hb0
  have HR0 : Hid (RdC lo hi (w.alloc (.cells #[.int .i64 k, .slice na nn nc, .slice ra rn rc, .slice ka kn kc] 29)) d (.agg #[.int .i64 k, .slice na nn nc, .slice ra rn rc, .slice ka kn kc]) c) := HRd.out.below hb0 hhi
  have HBx0 : Hid (BoxC (w.alloc (.cells #[.int .i64 k, .slice na nn nc, .slice ra rn rc, .slice ka kn kc] 29)) w.heap.size (.int .i64 k) (.slice na nn nc) (.slice ra rn rc) (.slice ka kn kc)) := BoxC.new w _ _ _ _
  have HE : Hid (partsN c = (c.cnt : Nat)) := by unfold Hid partsN; rw [hok]; rfl
  have hcl : c.cnt ≤ 1048577 := by have := c.cnt_le; omega
  clear hb0 h
  refine (callsIn_wide (n := 6)).1 ?_
  refine callsIn_of_wp_marks Try.func19 rfl trivial ?_ rfl
  simp only [Try.ntmps19, List.size_toArray, List.length_cons, List.length_nil, Nat.reduceAdd, Nat.reduceSub, Array.replicate_succ, Array.replicate_zero, List.push_toArray, List.append_toArray, List.nil_append, List.cons_append]
  gi_wp2_with fail
  refine ⟨trivial, ?_⟩
  refine (callsIn_wide.2 (implConOk_any HR0.out (Nat.le_trans hhi HB0.out.size) hbk)).mono ?_
  rintro e w1 ⟨rfl, hb1⟩
  rw [hok]
  have HB1 : Hid (Below w.heap.size w w1) := HB0.out.trans (hb1.mono HB0.out.size)
  have HBx1 : Hid (BoxC w1 w.heap.size (.int .i64 k) (.slice na nn nc) (.slice ra rn rc) (.slice ka kn kc)) := HBx0.out.below hb1 HBx0.out.lt
  obtain ⟨q0, q1, q2, q3⟩ := HBx1.out.cells
  have hs1 : w.heap.size < w1.heap.size := HBx1.out.lt
  have hs1' : w.heap.size ≠ w1.heap.size := by omega
  clear hb1
  gi_wp2_with (first | (refine ⟨trivial, ?_⟩; gi_at_call 48; refine (conTree_in _ _ _ _ _ _ _ _ _ _ _ _).mono ?_; rintro e w' ⟨rfl, rfl⟩) | (refine ⟨trivial, ?_⟩; gi_at_call 49; refine (all_in _ _ _ _ _ _ _ _ _ _ _ _).mono ?_; rintro e w' ⟨rfl, rfl⟩))
  obtain ⟨W0, hW0⟩ : ∃ W0, W0 = ((((w1.alloc (.cells #[.int .i64 0] 3)).alloc (.cells #[.int .i64 k, .slice na nn nc, .slice ra rn rc, .slice ka kn kc] 29)).alloc (.cells #[.int .i64 k, .slice na nn nc, .slice ra rn rc, .slice ka kn kc, .func (.func 67) #[] #[]] 64)).alloc (.cells #[.int .i64 k, .slice na nn nc, .slice ra rn rc, .slice ka kn kc, .func (.func 67) #[] #[]] 64)) := ⟨_, rfl⟩
  have hsz : W0.heap.size = w1.heap.size + 1 + 1 + 1 + 1 := by rw [hW0]; simp
  have hb0 : Below w.heap.size w W0 := by rw [hW0]; exact (((HB1.out.alloc HB1.out.size _).alloc (by simp; omega) _).alloc (by simp; omega) _).alloc (by simp; omega) _
  have hI1 : Boxed W0 w1.heap.size 3 (.int .i64 0) := by
    rw [hW0]; exact (((Boxed.new w1 3 (.int .i64 0)).alloc _).alloc _).alloc _
  have hBT : BoxT W0 (w1.heap.size + 1 + 1 + 1) k na nn nc ra rn rc ka kn kc := by
    rw [hW0]; have := World.alloc_heap_new (((w1.alloc (.cells #[.int .i64 0] 3)).alloc (.cells #[.int .i64 k, .slice na nn nc, .slice ra rn rc, .slice ka kn kc] 29)).alloc (.cells #[.int .i64 k, .slice na nn nc, .slice ra rn rc, .slice ka kn kc, .func (.func 67) #[] #[]] 64)) (.cells #[.int .i64 k, .slice na nn nc, .slice ra rn rc, .slice ka kn kc, .func (.func 67) #[] #[]] 64)
    simp only [World.size_alloc] at this; exact this
  rw [← hW0]
  clear hW0
  refine wpIn_rangeFunc_ownG rfl (by omega) (gf := 68) (lb := #[.pointer (some ⟨w1.heap.size + 1 + 1 + 1, 0, none⟩)]) rfl trivial (enters_of Try.func68 (by kernel_rfl) rfl)
    (parts_stops (lo := lo) (hi := hi) (B := w.heap.size) (n1 := w1.heap.size + 1 + 1 + 1 + 1) 5 (w1.heap.size + 1 + 1 + 1) hhi (by omega) c HRd.out (by omega) hb0 (by omega) hBT) KpC.trans
    (fun W l o o' hl hW hc _ => KpC.putObj W l o o' (by omega) hW hc) (Below.refl _ _) (fun _ => rfl)
    (InvP w.heap.size w1.heap.size w) (fun _ _ _ => False) (InvP.own (by omega) (by omega)) (fun _ _ _ _ _ h _ _ => h)
    ⟨hI1, hb0⟩
    (fun x => { tmps := #[.agg #[.int .i64 k, .slice na nn nc, .slice ra rn rc, .slice ka kn kc], .pointer (some ⟨w.heap.size, 0, none⟩), .int .i64 0, .pointer (some ⟨w1.heap.size, 0, none⟩), .agg #[.int .i64 k, .slice na nn nc, .slice ra rn rc, .slice ka kn kc], .bool true, .bool false, .agg #[.int .i64 k, .slice na nn nc, .slice ra rn rc, .slice ka kn kc], .agg #[.int .i64 k, .slice na nn nc, .slice ra rn rc, .slice ka kn kc, .func (.func 67) #[] #[]], .func (.func 68) #[] #[.pointer (some ⟨w1.heap.size + 1 + 1 + 1, 0, none⟩)], .int .i64 x.deep, x.v, undef, undef, undef], defers := [] }) ?assign ?body ?done ?stop
  case assign =>
    intro l x W K hK
    unfold encI
    gi_wp2
    simpa using hK
  case body =>
    rintro l pre x W hI hlen
    have cC := Boxed.cell hI.cnt
    have fC := Boxed.frozen hI.cnt
    have hpl : pre.length ≤ 1048577 := by rw [parts_length] at hlen; omega
    have HPl : Hid ((pre ++ [x]).length = pre.length + 1) := by unfold Hid; simp
    gi_wp2
    exact ⟨(KeepsOthers.setCell _ _ _).from _, KpC.set W _ _ (by omega) (by omega), by rw [HPl.out]; exact Boxed.set _ hI.cnt, hI.bel.setCell (p := ⟨w1.heap.size, 0, none⟩) (by show w.heap.size ≤ w1.heap.size; omega) _⟩
  case done =>
    rintro D ys W hD hS hI hK
    have cR := Boxed.cell hI.cnt
    have hL : ys.length = c.cnt := by rw [← parts_length c 1, ← hS, List.length_map]
    gi_wp2
    refine ⟨by simp, .inl ⟨_, _, rfl, run_takeDeferred hK, ?_⟩⟩
    exact ⟨_, results_tmp rfl _ _ _, by rw [HE.out, ← hL]; rfl, hI.bel.grown (grownBy_putObj' _ D _) (by have := Boxed.lt hI.cnt; omega) (fun k e => by cases e; omega)⟩
  case stop =>
    rintro D cd pre W hD hpre hI hK
    exact hI.elim

theorem implParts_any {d : Nat} {v : Value} {c : CN} {w : World} {lo hi : Nat} (h : RdC lo hi w d v c) (hhi : hi ≤ w.heap.size) (hbk : c.bulk ≤ 1048576) :
    Calls Try.prog 19 #[v] w fun e w' => e = .returned (.int .i64 (partsN c)) ∧ Below w.heap.size w w' := by
  cases hok : conOk c
  · exact implParts_no h hhi hbk hok
  · exact implParts_yes h hhi hbk hok

end Go.Proofs.Ytbjkokndnfmcpah
