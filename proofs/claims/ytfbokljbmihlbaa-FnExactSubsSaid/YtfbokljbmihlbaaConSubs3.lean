/- spec.l2subs: the parts put behind one another, each once. -/
import Derived.Test.YtfbokljbmihlbaaConSubs2
namespace Go.Proofs.Ytfbokljbmihlbaa
open Go.RowKit

def FitC (c : CN) : Prop := c.bulk ≤ 1048576 ∧ wfC c = true
def putsN (l : List CN) (ps : List (Nat × CN)) : List CN := ps.foldl (fun a p => putN a p.2) l

theorem putsN_append (l : List CN) (a b : List (Nat × CN)) : putsN l (a ++ b) = putsN (putsN l a) b := List.foldl_append ..
theorem putsN_cons (l : List CN) (p : Nat × CN) (b : List (Nat × CN)) : putsN l (p :: b) = putsN (putN l p.2) b := rfl

theorem putN_len (l : List CN) (c : CN) : (putN l c).length ≤ l.length + 1 := by
  unfold putN
  split
  · omega
  · simp

theorem putsN_len (l : List CN) (ps : List (Nat × CN)) : (putsN l ps).length ≤ l.length + ps.length := by
  induction ps generalizing l with
  | nil => simp [putsN]
  | cons p ps ih =>
    rw [putsN_cons]
    have h1 := ih (putN l p.2)
    have h2 := putN_len l p.2
    simp only [List.length_cons]
    omega

theorem putN_all {P : CN → Prop} {l : List CN} {c : CN} (h : ∀ x ∈ l, P x) (hc : P c) : ∀ x ∈ putN l c, P x := by
  intro x hx
  unfold putN at hx
  split at hx
  · exact h x hx
  · rcases List.mem_append.1 hx with hx | hx
    · exact h x hx
    · simp only [List.mem_singleton] at hx
      rw [hx]; exact hc

theorem putsN_all {P : CN → Prop} (ps : List (Nat × CN)) : ∀ {l : List CN}, (∀ x ∈ l, P x) → (∀ p ∈ ps, P p.2) → ∀ x ∈ putsN l ps, P x := by
  induction ps with
  | nil => intro l h _; exact h
  | cons p ps ih =>
    intro l h hp
    rw [putsN_cons]
    exact ih (putN_all h (hp p (by simp))) (fun q hq => hp q (by simp [hq]))

mutual
theorem parts_fit : ∀ (c : CN) (deep : Nat), FitC c → ∀ p ∈ parts c deep, FitC p.2
  | .mk k n r ks, deep, h => by
    intro p hp
    rw [parts] at hp
    rcases List.mem_cons.1 hp with rfl | hp
    · exact h
    · refine partsL_fit ks (deep + 1) ?_ ?_ p hp
      · have h1 := h.1
        simp only [CN.bulk] at h1
        omega
      · have h2 := h.2
        rw [wfC, Bool.and_eq_true] at h2
        exact h2.2
theorem partsL_fit : ∀ (cs : List CN) (deep : Nat), bulks cs ≤ 1048576 → wfL cs = true → ∀ p ∈ partsL cs deep, FitC p.2
  | [], _, _, _ => by intro p hp; simp [partsL] at hp
  | c :: cs, deep, hb, hw => by
    intro p hp
    rw [partsL] at hp
    rw [wfL, Bool.and_eq_true] at hw
    simp only [bulks] at hb
    rcases List.mem_append.1 hp with hp | hp
    · exact parts_fit c deep ⟨by omega, hw.1⟩ p hp
    · exact partsL_fit cs deep (by omega) hw.2 p hp
end

theorem fit_getD {l : List CN} (h : ∀ x ∈ l, FitC x) (i : Nat) (hi : i < l.length) : (l.getD i CN.zero).bulk ≤ 1048576 ∧ wfC (l.getD i CN.zero) = true := by
  refine h _ ?_
  simp only [List.getD, List.getElem?_eq_getElem hi, Option.getD_some]
  exact List.getElem_mem hi

/-- What lies below the row's own memory is kept. -/
theorem GR.sameR {w w' : World} {u u' : Value} {lo hi BW : Nat} (h : GR w w' u u') (hu : ∀ g, u.ownBlock = some g → BW ≤ g) (hhi : hi ≤ BW) (hs : hi ≤ w.heap.size) : Same lo hi w w' :=
  fun b _ h2 => h.grown.block b (by omega) (fun e => by have := hu b e.symm; omega)

theorem RdC.lift {lo hi d D : Nat} {w : World} {v : Value} {c : CN} (h : RdC lo hi w d v c) (hd : d ≤ D) : RdC lo hi w D v c := by
  obtain ⟨L, hL, hb⟩ := h.ow
  exact (hL.lift hd).rd hb

def SbP (d : Nat) : Prop := ∀ (v : Value) (c : CN) (w : World) (lo hi BW D deep : Nat) (u : Value) (cs : List CN) (Ls : List (List (Addr × IntKind))) (xs : List Value), RdC lo hi w d v c → d ≤ D → hi ≤ BW → BW ≤ w.heap.size → RowS BW hi w D u cs Ls xs →
  FitC c → (∀ x ∈ cs, FitC x) → cs.length + (parts c deep).length ≤ 100000 →
  Calls Try.prog 46 #[u, v] w fun e w' => ∃ u' Ls' xs', e = .returned u' ∧ RowS BW hi w' D u' (putsN cs (parts c deep)) Ls' xs' ∧ GR w w' u u'

set_option maxRecDepth 100000 in
set_option maxHeartbeats 4000000 in
theorem sbP_of {d : Nat} (H : SbP d) : SbP (d + 1) := by
  intro v c w lo hi BW D deep u cs Ls xs h hd hhi hbw hrow hfc hfl hn
  have HH : Hid (SbP d) := H
  have HRd : Hid (RdC lo hi w (d + 1) v c) := h
  obtain ⟨na, nn, nc, ra, rn, rc, ka, kn, kc, rfl, hname, hrole, hks⟩ := h
  obtain ⟨k, hk⟩ : ∃ k, k = c.kind := ⟨_, rfl⟩
  rw [← hk] at HRd ⊢
  have HKL : Hid (c.kids.length = kn) := hks.len
  have HK : Hid (RdL (RdC lo hi w d) lo hi w ka kn kc c.kids) := hks
  have hkn : kn ≤ 1048576 := by have := hfc.1; rw [CN.bulk_eq] at this; have := length_le_bulks c.kids; have := hks.len; omega
  obtain ⟨W0, hW0⟩ : ∃ W0, W0 = w.alloc (.cells #[.int .i64 k, .slice na nn nc, .slice ra rn rc, .slice ka kn kc] 38) := ⟨_, rfl⟩
  have HW0 : Hid (W0 = w.alloc (.cells #[.int .i64 k, .slice na nn nc, .slice ra rn rc, .slice ka kn kc] 38)) := hW0
  have hb0 : Below w.heap.size w W0 := by rw [hW0]; exact (Below.refl _ _).alloc (Nat.le_refl _) _
  have HB0 : Hid (Below w.heap.size w W0) := hb0
  have hl0 : w.heap.size < W0.heap.size := by rw [hW0]; simp
  have hbx : BoxC W0 w.heap.size (.int .i64 k) (.slice na nn nc) (.slice ra rn rc) (.slice ka kn kc) := by rw [hW0]; exact BoxC.new w _ _ _ _
  have HBx : Hid (BoxC W0 w.heap.size (.int .i64 k) (.slice na nn nc) (.slice ra rn rc) (.slice ka kn kc)) := hbx
  have HRow : Hid (RowS BW hi W0 D u cs Ls xs) := hrow.below hb0
  have HU : Hid (∀ g, u.ownBlock = some g → BW ≤ g ∧ g < w.heap.size) := fun g hg => hrow.row.row.lt g hg
  have HR0 : Hid (RdC lo hi W0 D (.agg #[.int .i64 k, .slice na nn nc, .slice ra rn rc, .slice ka kn kc]) c) := (HRd.out.below hb0 (by omega)).lift hd
  have HFc : Hid (FitC c) := hfc
  have HFl : Hid (∀ x ∈ cs, FitC x) := hfl
  have HN : Hid (cs.length + (1 + (partsL c.kids (deep + 1)).length) ≤ 100000) := by unfold Hid; rw [parts_eq, List.length_cons] at hn; omega
  have hn0 : cs.length ≤ 100000 := by omega
  have HKb : Hid (bulks c.kids ≤ 1048576 ∧ wfL c.kids = true) := by
    have h1 := hfc.1
    rw [CN.bulk_eq] at h1
    have h2 := hfc.2
    rw [wfC_eq, Bool.and_eq_true] at h2
    exact ⟨by omega, h2.2⟩
  have hbw0 : BW ≤ W0.heap.size := by omega
  obtain ⟨b0, b1, b2, b3⟩ := hbx.cells
  obtain ⟨ua, uc, ub, hu, _, _⟩ := hrow.form
  clear hrow hb0 hW0 hbx hks hname hrole hk hfc hfl hn
  obtain ⟨n, hnn⟩ : ∃ n, n = cs.length := ⟨_, rfl⟩
  have HNn : Hid (n = cs.length) := hnn
  rw [← hnn] at hu hn0
  clear hnn
  subst hu
  go_enter Try.func46, Try.ntmps46
  go_upto_region 1 with fail
  rw [← HW0.out]
  go_wp2_with fail
  refine (l2put_any HR0.out hhi hbw0 HRow.out HFc.out.1 HFc.out.2 (fun i hi' => fit_getD HFl.out i hi') (by rw [← HNn.out]; exact hn0)).mono ?_
  rintro e w1 ⟨u1, Ls1, xs1, rfl, hrow1, hgr1⟩
  have HI0 : Hid (RowS BW hi w1 D u1 (putsN cs ((deep, c) :: partsL (c.kids.take 0) (deep + 1))) Ls1 xs1 ∧ GR W0 w1 (.slice ua n uc) u1) := ⟨by rw [putsN_cons]; simpa [putsN, partsL] using hrow1, hgr1⟩
  obtain ⟨a1, cap1, _, hu1, _, _⟩ := hrow1.form
  obtain ⟨n1, hn1⟩ : ∃ n1, n1 = (putN cs c).length := ⟨_, rfl⟩
  rw [← hn1] at hu1
  subst hu1
  clear hrow1 hgr1 hn1 b0 b1 b2 b3
  go_wp2_with fail
  go_loopw [0, 5] (fun l i wr => ∃ (j : Nat) (Lr : List (List (Addr × IntKind))) (xr : List Value), j ≤ kn ∧ i = .int .i64 j ∧ RowS BW hi wr D l (putsN cs ((deep, c) :: partsL (c.kids.take j) (deep + 1))) Lr xr ∧ GR W0 wr (.slice ua n uc) l) (fun _ i _ => kn - (intOf i).toNat)
  case atStart => exact ⟨0, _, _, Nat.zero_le _, rfl, HI0.out⟩
  case round =>
    obtain ⟨j, Lr, xr, hj, rfl, hrw, hgr⟩ := hrel
    obtain ⟨M, hM⟩ : ∃ M, M = putsN cs ((deep, c) :: partsL (c.kids.take j) (deep + 1)) := ⟨_, rfl⟩
    rw [← hM] at hrw
    have HM : Hid (M = putsN cs ((deep, c) :: partsL (c.kids.take j) (deep + 1))) := hM
    obtain ⟨a2, cap2, _, hu2, _, _⟩ := hrw.form
    obtain ⟨n2, hn2⟩ : ∃ n2, n2 = M.length := ⟨_, rfl⟩
    rw [← hn2] at hu2
    subst hu2
    have HRw : Hid (RowS BW hi wr D (.slice a2 n2 cap2) M Lr xr) := hrw
    have HGr : Hid (GR W0 wr (.slice ua n uc) (.slice a2 n2 cap2)) := hgr
    have hbc : BoxC wr w.heap.size (.int .i64 k) (.slice na nn nc) (.slice ra rn rc) (.slice ka kn kc) := (hgr.grown.block w.heap.size hl0 (fun e => by have := (HU.out _ e.symm).2; omega)).trans HBx.out
    obtain ⟨b0, b1, b2, b3⟩ := hbc.cells
    have hs0 : W0.heap.size ≤ wr.heap.size := hgr.grown.size
    have HSm : Hid (Same lo hi w wr) := (Same.of_below HB0.out (by omega)).trans (hgr.sameR (fun g hg => (HU.out g hg).1) hhi (by omega))
    by_cases hlt : j < kn
    · have hjl : j < c.kids.length := by rw [HKL.out]; exact hlt
      have hji : (j : Int) < (kn : Int) := by omega
      have hR := HK.out.same HSm.out
      rcases hR.cells with hz | ⟨b, off, e1, _, hbhi, hc⟩
      · omega
      · subst e1
        obtain ⟨v0, v1, v2, v3, q0, q1, q2, q3, hrd⟩ := hc j hlt
        have HKid : Hid (RdC lo hi wr d (.agg #[v0, v1, v2, v3]) (c.kids.getD j CN.zero)) := hrd
        have HKf : Hid (FitC (c.kids.getD j CN.zero)) := ⟨by have := getD_bulk_le c.kids j hjl; have := HKb.out.1; omega, wfL_getD _ _ hjl HKb.out.2⟩
        have HSub : Hid (putsN M (parts (c.kids.getD j CN.zero) (deep + 1)) = putsN cs ((deep, c) :: partsL (c.kids.take (j + 1)) (deep + 1))) := by
          unfold Hid
          rw [partsL_take_succ _ _ _ hjl, HM.out, ← putsN_append]; rfl
        have HMf : Hid (∀ x ∈ M, FitC x) := by
          unfold Hid
          rw [HM.out]
          refine putsN_all _ HFl.out (fun p hp => ?_)
          rcases List.mem_cons.1 hp with rfl | hp
          · exact HFc.out
          · refine partsL_fit c.kids (deep + 1) HKb.out.1 HKb.out.2 p ?_
            rw [partsL_take_drop c.kids j]
            exact List.mem_append_left _ hp
        have HMn : Hid (M.length + (parts (c.kids.getD j CN.zero) (deep + 1)).length ≤ 100000) := by
          unfold Hid
          have h1 := putsN_len cs ((deep, c) :: partsL (c.kids.take j) (deep + 1))
          have h2 := HN.out
          have h3 : (partsL c.kids (deep + 1)).length = (partsL (c.kids.take (j + 1)) (deep + 1)).length + (partsL (c.kids.drop (j + 1)) (deep + 1)).length := by rw [partsL_take_drop c.kids (j + 1), List.length_append]
          rw [partsL_take_succ _ _ _ hjl, List.length_append] at h3
          rw [HM.out]
          simp only [List.length_cons] at h1
          omega
        have hbwr : BW ≤ wr.heap.size := by omega
        have hdd : d ≤ D := by omega
        clear hR hc hrd hrw hgr hbc hM hn2
        go_wp2_with fail
        refine (HH.out _ (c.kids.getD j CN.zero) wr lo hi BW D (deep + 1) _ M Lr xr HKid.out hdd hhi hbwr HRw.out HKf.out HMf.out HMn.out).mono ?_
        rintro e w5 ⟨u5, L5, x5, rfl, hr5, hg5⟩
        have HI5 : Hid (RowS BW hi w5 D u5 (putsN cs ((deep, c) :: partsL (c.kids.take (j + 1)) (deep + 1))) L5 x5 ∧ GR W0 w5 (.slice ua n uc) u5) := ⟨by rw [← HSub.out]; exact hr5, HGr.out.trans hg5⟩
        obtain ⟨a5, cap5, _, hu5, _, _⟩ := hr5.form
        obtain ⟨n5, hn5⟩ : ∃ n5, n5 = (putsN M (parts (c.kids.getD j CN.zero) (deep + 1))).length := ⟨_, rfl⟩
        rw [← hn5] at hu5
        subst hu5
        clear hr5 hg5 hn5
        go_wp2_with fail
        go_roundw
        case rel => exact ⟨j + 1, _, _, by omega, by go_num, HI5.out⟩
        case measure => simp [intOf]; omega
    · have HE : Hid (M = putsN cs (parts c deep)) := by unfold Hid; rw [HM.out, List.take_of_length_le (by rw [HKL.out]; omega), parts_eq]
      have HG : Hid (GR w wr (.slice ua n uc) (.slice a2 n2 cap2)) := (GR.of_below _ HB0.out).trans hgr
      clear hrw hgr hbc hM hn2
      go_wp2_with fail
      go_ret
      exact ⟨_, Lr, xr, rfl, by rw [← HE.out]; exact HRw.out, HG.out⟩

theorem sbP_any : ∀ d, SbP d
  | 0 => fun _ _ _ _ _ _ _ _ _ _ _ _ h => h.elim
  | d + 1 => sbP_of (sbP_any d)

end Go.Proofs.Ytfbokljbmihlbaa
