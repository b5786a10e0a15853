/- spec.l2nnf: for every concept whose parts are as their kinds ask it answers what 'nnfC' says; names and roles it shares with its argument. -/
import Derived.Test.YtoeoddfhofcpcaaConSpO
namespace Go.Proofs.Ytoeoddfhofcpcaa
open Go.RowKit

def NfP (d : Nat) : Prop := ∀ (v : Value) (c : CN) (no : Bool) (w : World) (lo hi : Nat), RdC lo hi w d v c → hi ≤ w.heap.size → c.bulk ≤ 1048576 → wfC c = true →
  Calls Try.prog 71 #[v, .bool no] w fun e w' => ∃ v' L, e = .returned v' ∧ OwC w' (d + 1) v' (nnfC no c) L ∧ (∀ x ∈ L, (x.1.block < hi ∨ w.heap.size ≤ x.1.block) ∧ x.1.block < w'.heap.size) ∧ Below w.heap.size w w'

theorem fin_postS {w W : World} {d hi : Nat} {c : CN} {L : List (Addr × IntKind)} {v0 v1 v2 v3 : Value} (hL : OwC W d (.agg #[v0, v1, v2, v3]) c L) (hx : ∀ x ∈ L, (x.1.block < hi ∨ w.heap.size ≤ x.1.block) ∧ x.1.block < W.heap.size ∧ x.1.block ≠ w.heap.size + 1) (h0 : Below w.heap.size w W) :
    ∃ v' L, Ending.returned (.agg #[v0, v1, v2, v3]) = .returned v' ∧ OwC ((((W.setCell ⟨w.heap.size + 1, 0, none⟩ v0).setCell ⟨w.heap.size + 1, 1, none⟩ v1).setCell ⟨w.heap.size + 1, 2, none⟩ v2).setCell ⟨w.heap.size + 1, 3, none⟩ v3) d v' c L ∧
      (∀ x ∈ L, (x.1.block < hi ∨ w.heap.size ≤ x.1.block) ∧ x.1.block < ((((W.setCell ⟨w.heap.size + 1, 0, none⟩ v0).setCell ⟨w.heap.size + 1, 1, none⟩ v1).setCell ⟨w.heap.size + 1, 2, none⟩ v2).setCell ⟨w.heap.size + 1, 3, none⟩ v3).heap.size) ∧
      Below w.heap.size w ((((W.setCell ⟨w.heap.size + 1, 0, none⟩ v0).setCell ⟨w.heap.size + 1, 1, none⟩ v1).setCell ⟨w.heap.size + 1, 2, none⟩ v2).setCell ⟨w.heap.size + 1, 3, none⟩ v3) := by
  refine ⟨_, L, rfl, hL.sameF (fun x hx' => (hx x hx').2.2) rfl, fun x hx' => ⟨(hx x hx').1, by simpa using (hx x hx').2.1⟩, ?_⟩
  exact ((((h0.setCell (by show w.heap.size ≤ w.heap.size + 1; omega) _).setCell (by show w.heap.size ≤ w.heap.size + 1; omega) _).setCell (by show w.heap.size ≤ w.heap.size + 1; omega) _).setCell (by show w.heap.size ≤ w.heap.size + 1; omega) _)

set_option maxRecDepth 100000 in
set_option maxHeartbeats 2000000 in
theorem nfP_of {d : Nat} (H : ∀ d', d = d' + 1 → NfP d') : NfP d := by
  intro v c no w lo hi h hhi hbk hwf
  have HR0 : Hid (RdC lo hi w d v c) := h
  cases d with
  | zero => exact h.elim
  | succ d =>
    have HH : Hid (NfP d) := H d rfl
    obtain ⟨na, nn, nc, ra, rn, rc, ka, kn, kc, rfl, hn, hr, hks⟩ := h
    have hbe := c.bulk_eq
    have hrl := hr.len
    rw [wfC_eq, Bool.and_eq_true] at hwf
    obtain ⟨hsh, hwk⟩ := hwf
    have hfacts := shape_facts hsh
    have hsh0 := hsh
    unfold shapeB at hsh0
    simp only [Bool.and_eq_true, decide_eq_true_eq] at hsh0
    have hkc := hsh0.2.2
    have hnf := hsh0.1
    obtain ⟨k, hk⟩ : ∃ k, k = c.kind := ⟨_, rfl⟩
    have HK : Hid (k = c.kind) := hk
    rw [← hk] at hkc hfacts ⊢
    have HR0' : Hid (RdC lo hi w (d + 1) (.agg #[.int .i64 k, .slice na nn nc, .slice ra rn rc, .slice ka kn kc]) c) := by rw [hk]; exact HR0.out
    have hk07 := hfacts.1
    have HN : Hid (Rd lo hi w na nn nc c.name) := hn
    have HR : Hid (Rd lo hi w ra rn rc c.role) := hr
    have HKs : Hid (RdL (RdC lo hi w d) lo hi w ka kn kc c.kids) := hks
    have HBk : Hid (bulks c.kids ≤ 1048576) := by unfold Hid; omega
    have HWk : Hid (wfL c.kids = true) := hwk
    have HKL : Hid (c.kids.length = kn) := hks.len
    have HKc : Hid ((c.kids.length : Int) = kidN k) := hkc
    have HNf : Hid (k ≠ 2 → nn = 0) := fun h2 => by
      unfold nameFit at hnf
      rw [if_neg (by rw [← hk]; exact h2)] at hnf
      simp only [decide_eq_true_eq] at hnf
      have := hn.len
      omega
    obtain ⟨W0, hW0⟩ : ∃ W0, W0 = ((w.alloc (.cells #[.int .i64 k, .slice na nn nc, .slice ra rn rc, .slice ka kn kc] 53)).alloc (.cells #[.int .i64 0, .slice none 0 0, .slice none 0 0, .slice none 0 0] 53)).alloc (.cells #[.int .i64 k, .slice na nn nc, .slice ra rn rc, .slice none 0 0] 53) := ⟨_, rfl⟩
    have HW0 : Hid (W0 = ((w.alloc (.cells #[.int .i64 k, .slice na nn nc, .slice ra rn rc, .slice ka kn kc] 53)).alloc (.cells #[.int .i64 0, .slice none 0 0, .slice none 0 0, .slice none 0 0] 53)).alloc (.cells #[.int .i64 k, .slice na nn nc, .slice ra rn rc, .slice none 0 0] 53)) := hW0
    have hs0 : W0.heap.size = w.heap.size + 3 := by rw [hW0]; simp
    have HS0 : Hid (W0.heap.size = w.heap.size + 3) := hs0
    have hb0 : Below w.heap.size w W0 := by rw [hW0]; exact (((Below.refl _ _).alloc (Nat.le_refl _) _).alloc (by simp) _).alloc (by simp; omega) _
    have hbx : BoxC W0 w.heap.size (.int .i64 k) (.slice na nn nc) (.slice ra rn rc) (.slice ka kn kc) := by
      rw [hW0]; exact ((BoxC.new w _ _ _ _).below ((Below.refl _ _).alloc (Nat.le_refl _) _) (by simp)).below ((Below.refl _ _).alloc (Nat.le_refl _) _) (by simp; omega)
    have hbr : BoxC W0 (w.heap.size + 1) (.int .i64 0) (.slice none 0 0) (.slice none 0 0) (.slice none 0 0) := by
      rw [hW0]
      have := BoxC.new (w.alloc (.cells #[.int .i64 k, .slice na nn nc, .slice ra rn rc, .slice ka kn kc] 53)) (.int .i64 0) (.slice none 0 0) (.slice none 0 0) (.slice none 0 0)
      rw [World.size_alloc] at this
      exact this.below ((Below.refl _ _).alloc (Nat.le_refl _) _) (by simp)
    have hbo : BoxC W0 (w.heap.size + 2) (.int .i64 k) (.slice na nn nc) (.slice ra rn rc) (.slice none 0 0) := by
      rw [hW0]
      have := BoxC.new ((w.alloc (.cells #[.int .i64 k, .slice na nn nc, .slice ra rn rc, .slice ka kn kc] 53)).alloc (.cells #[.int .i64 0, .slice none 0 0, .slice none 0 0, .slice none 0 0] 53)) (.int .i64 k) (.slice na nn nc) (.slice ra rn rc) (.slice none 0 0)
      rwa [World.size_alloc, World.size_alloc] at this
    have HB0 : Hid (Below w.heap.size w W0) := hb0
    have HBx : Hid (BoxC W0 w.heap.size (.int .i64 k) (.slice na nn nc) (.slice ra rn rc) (.slice ka kn kc)) := hbx
    have HBr : Hid (BoxC W0 (w.heap.size + 1) (.int .i64 0) (.slice none 0 0) (.slice none 0 0) (.slice none 0 0)) := hbr
    have HBo : Hid (BoxC W0 (w.heap.size + 2) (.int .i64 k) (.slice na nn nc) (.slice ra rn rc) (.slice none 0 0)) := hbo
    obtain ⟨b0, b1, b2, b3⟩ := hbx.cells
    obtain ⟨o0, o1, o2, o3⟩ := hbo.cells
    have of0 := hbo.frz 0
    have of3 := hbo.frz 3
    have hh0 : hi ≤ W0.heap.size := Nat.le_trans hhi hb0.size
    clear hn hr hks H hbe hrl hb0 hW0 hbx hbr hbo hs0 hsh hwk hsh0 hnf hfacts hbk HR0
    by_cases k3 : k = 3
    · have hkn1 : kn = 1 := by
        have h1 := HKc.out
        rw [k3, show kidN 3 = 1 from rfl] at h1
        have := HKL.out
        omega
      have hR := HKs.out.below HB0.out hhi
      rcases hR.cells with hz | ⟨b, off, e1, _, hbhi, hc⟩
      · omega
      · subst e1
        obtain ⟨v0, v1, v2, v3, q0, q1, q2, q3, hrd⟩ := hc 0 (by omega)
        obtain ⟨yk, yna, ynn, ync, yra, yrn, yrc, yka, ykn, ykc, rfl, rfl, rfl, rfl⟩ := hrd.sh.form
        simp only [Nat.zero_mul, Nat.add_zero] at q0 q1 q2 q3
        have HKid : Hid (RdC lo hi W0 d (.agg #[.int .i64 yk, .slice yna ynn ync, .slice yra yrn yrc, .slice yka ykn ykc]) (c.kids.getD 0 CN.zero)) := hrd
        have HE : Hid (nnfC no c = nnfC (!no) (c.kids.getD 0 CN.zero)) := nnfC_not (by rw [← HK.out]; exact k3) (by rw [HKL.out]; omega)
        have HW : Hid (wfC (c.kids.getD 0 CN.zero) = true) := wfL_getD _ _ (by rw [HKL.out]; omega) HWk.out
        have HKb : Hid ((c.kids.getD 0 CN.zero).bulk ≤ 1048576) := by unfold Hid; have := getD_bulk_le c.kids 0 (by rw [HKL.out]; omega); have := HBk.out; omega
        clear hR hc hrd hk
        subst k3
        subst hkn1
        go_enter Try.func71, Try.ntmps71
        go_upto_region 2 with fail
        rw [← HW0.out]
        go_wp2_with fail
        refine (HH.out _ (c.kids.getD 0 CN.zero) (!no) W0 lo hi HKid.out hh0 HKb.out HW.out).mono ?_
        rintro e w5 ⟨v5, L5, rfl, hO5, hl5, hb5⟩
        obtain ⟨zna, znn, znc, zra, zrn, zrc, zka, zkn, zkc, rfl⟩ := hO5.agg
        obtain ⟨zk, hzk⟩ : ∃ zk, zk = (nnfC (!no) (c.kids.getD 0 CN.zero)).kind := ⟨_, rfl⟩
        rw [← hzk] at hO5
        rw [← hzk]
        have HB5 : Hid (Below w.heap.size w w5) := HB0.out.trans (hb5.mono HB0.out.size)
        have hbr5 := HBr.out.below hb5 (by have := HS0.out; omega)
        have HL5 : Hid (∀ x ∈ L5, (x.1.block < hi ∨ w.heap.size ≤ x.1.block) ∧ x.1.block < w5.heap.size ∧ x.1.block ≠ w.heap.size + 1) := fun x hx => by
          have h1 := hl5 x hx
          have h2 := HS0.out
          omega
        have HO5 : Hid (OwC w5 (d + 1 + 1) (.agg #[.int .i64 zk, .slice zna znn znc, .slice zra zrn zrc, .slice zka zkn zkc]) (nnfC no c) L5) := by unfold Hid; rw [HE.out]; exact hO5.lift (by omega)
        obtain ⟨r0, r1, r2, r3⟩ := hbr5.cells
        have f0 := hbr5.frz 0
        have f1 := hbr5.frz 1
        have f2 := hbr5.frz 2
        have f3 := hbr5.frz 3
        obtain ⟨s0, s1, s2, s3⟩ := (hbr5.set4 (.int .i64 zk) (.slice zna znn znc) (.slice zra zrn zrc) (.slice zka zkn zkc)).cells
        clear hO5 hb5 hzk hbr5 hl5
        go_wp2_with fail
        refine bodyPost_ret (v := .agg #[.int .i64 zk, .slice zna znn znc, .slice zra zrn zrc, .slice zka zkn zkc]) (by simp [results, Try.results71, go_sem, s0, s1, s2, s3]) rfl ?_
        exact fin_postS HO5.out HL5.out HB5.out
    · by_cases k2 : k = 2
      · have HRd : Hid (RdC lo hi W0 (d + 1) (.agg #[.int .i64 k, .slice na nn nc, .slice ra rn rc, .slice ka kn kc]) c) := HR0'.out.below HB0.out hhi
        have HE : Hid (∀ b, nnfC b c = if b = true then .mk 3 [] [] [c] else c) := fun b => nnfC_name (by rw [← HK.out]; exact k2)
        clear hk
        obtain ⟨L, hL, hx⟩ := HRd.out.ow
        have hbr5 := HBr.out
        cases no with
        | true =>
          have hb3 : Below W0.heap.size W0 (W0.alloc (.cells #[.int .i64 k, .slice na nn nc, .slice ra rn rc, .slice ka kn kc] 53)) := (Below.refl _ _).alloc (Nat.le_refl _) _
          have hrow : RowK W0.heap.size (W0.alloc (.cells #[.int .i64 k, .slice na nn nc, .slice ra rn rc, .slice ka kn kc] 53)) (d + 1) (.slice (some ⟨W0.heap.size, 0, none⟩) 1 1) [c] [L] [.int .i64 k, .slice na nn nc, .slice ra rn rc, .slice ka kn kc] := by
            refine ⟨rfl, ⟨rfl, .inr ⟨W0.heap.size, 1, #[.int .i64 k, .slice na nn nc, .slice ra rn rc, .slice ka kn kc], rfl, Nat.le_refl _, World.alloc_heap_new W0 _, by simp, by unfold maxLen; simp, rfl, rfl⟩⟩, fun i hi' => ?_, fun x hx' => ?_, fun x hx' => ?_⟩
            · simp only [List.length_cons, List.length_nil] at hi'
              obtain rfl : i = 0 := by omega
              exact ⟨_, _, _, _, rfl, rfl, rfl, rfl, hL.below hb3 (fun x hx' => Nat.lt_of_lt_of_le (hx x hx').2 hh0)⟩
            · simp only [List.flatten_cons, List.flatten_nil, List.append_nil] at hx'
              have := (hx x hx').2
              rw [World.size_alloc]; omega
            · simp only [List.flatten_cons, List.flatten_nil, List.append_nil] at hx'
              have := (hx x hx').2
              simp only [Value.ownBlock, ne_eq, Option.some.injEq]
              omega
          obtain ⟨ka', kc', bk', hkv, hok', hfk'⟩ := hrow.owL
          have HO6 : Hid (∃ L', OwC (W0.alloc (.cells #[.int .i64 k, .slice na nn nc, .slice ra rn rc, .slice ka kn kc] 53)) (d + 1 + 1) (.agg #[.int .i64 3, .slice none 0 0, .slice none 0 0, .slice (some ⟨W0.heap.size, 0, none⟩) 1 1]) (nnfC true c) L' ∧ ∀ x ∈ L', (x.1.block < hi ∨ w.heap.size ≤ x.1.block) ∧ x.1.block < (W0.alloc (.cells #[.int .i64 k, .slice na nn nc, .slice ra rn rc, .slice ka kn kc] 53)).heap.size ∧ x.1.block ≠ w.heap.size + 1) := by
            unfold Hid
            rw [HE.out true, if_pos rfl, hkv]
            refine ⟨_, ⟨_, _, _, _, _, _, _, _, _, 0, 0, 0, 0, bk', 0, _, rfl, ⟨rfl, by simp, by simp [CN.name], .inl rfl⟩, ⟨rfl, by simp, by simp [CN.role], .inl rfl⟩, hok', rfl⟩, fun x hx' => ?_⟩
            simp only [List.mem_append] at hx'
            have h2 := HS0.out
            rcases hx' with hx' | hx' | hx'
            · obtain ⟨j, hj, rfl⟩ := mem_leafB.1 hx'; omega
            · obtain ⟨j, hj, rfl⟩ := mem_leafB.1 hx'; omega
            · rcases mem_leafK.1 hx' with ⟨i, hi', rfl | hx''⟩
              · rcases hfk' with e | ⟨_, q1, q2, _⟩
                · simp at e
                · refine ⟨.inr ?_, q2, ?_⟩
                  · show w.heap.size ≤ bk'; omega
                  · show bk' ≠ _; omega
              · have hx'' := getD_mem_flatten hx''
                simp only [List.flatten_cons, List.flatten_nil, List.append_nil] at hx''
                have h3 := (hx x hx'').2
                rw [World.size_alloc]
                omega
          have hlr : w.heap.size + 1 < W0.heap.size := hbr5.lt
          have HEq : Hid (∀ x0 x1 x2 x3 : Value, (((((W0.alloc (.cells #[.int .i64 k, .slice na nn nc, .slice ra rn rc, .slice ka kn kc] 53)).setCell ⟨w.heap.size + 1, 0, none⟩ x0).setCell ⟨w.heap.size + 1, 1, none⟩ x1).setCell ⟨w.heap.size + 1, 2, none⟩ x2).setCell ⟨w.heap.size + 1, 3, none⟩ x3) = ((((W0.setCell ⟨w.heap.size + 1, 0, none⟩ x0).setCell ⟨w.heap.size + 1, 1, none⟩ x1).setCell ⟨w.heap.size + 1, 2, none⟩ x2).setCell ⟨w.heap.size + 1, 3, none⟩ x3).alloc (.cells #[.int .i64 k, .slice na nn nc, .slice ra rn rc, .slice ka kn kc] 53)) := fun x0 x1 x2 x3 => by rw [World.setCell_alloc_past _ _ _ _ hlr, World.setCell_alloc_past _ _ _ _ (by simpa using hlr), World.setCell_alloc_past _ _ _ _ (by simpa using hlr), World.setCell_alloc_past _ _ _ _ (by simpa using hlr)]
          have hbr6 := hbr5.below hb3 hlr
          have HB6 : Hid (Below w.heap.size w (W0.alloc (.cells #[.int .i64 k, .slice na nn nc, .slice ra rn rc, .slice ka kn kc] 53))) := HB0.out.alloc HB0.out.size _
          obtain ⟨r0, r1, r2, r3⟩ := hbr5.cells
          have f0 := hbr5.frz 0
          have f1 := hbr5.frz 1
          have f2 := hbr5.frz 2
          have f3 := hbr5.frz 3
          obtain ⟨s0, s1, s2, s3⟩ := (hbr6.set4 (.int .i64 3) (.slice none 0 0) (.slice none 0 0) (.slice (some ⟨W0.heap.size, 0, none⟩) 1 1)).cells
          rw [HEq.out] at s0 s1 s2 s3
          clear hL hx hbr5 hbr6 hrow hok' hfk' hkv hb3
          subst k2
          go_enter Try.func71, Try.ntmps71
          go_upto_region 2 with fail
          rw [← HW0.out]
          go_wp2_with fail
          refine bodyPost_ret (v := .agg #[.int .i64 3, .slice none 0 0, .slice none 0 0, .slice (some ⟨W0.heap.size, 0, none⟩) 1 1]) (by simp [results, Try.results71, go_sem, s0, s1, s2, s3]) rfl ?_
          obtain ⟨L', h1, h2⟩ := HO6.out
          have h3 := fin_postS h1 h2 HB6.out
          rw [HEq.out] at h3
          exact h3
        | false =>
          have HO5 : Hid (OwC W0 (d + 1 + 1) (.agg #[.int .i64 k, .slice na nn nc, .slice ra rn rc, .slice ka kn kc]) (nnfC false c) L) := by unfold Hid; rw [HE.out false, if_neg (by decide)]; exact hL.lift (by omega)
          have HL5 : Hid (∀ x ∈ L, (x.1.block < hi ∨ w.heap.size ≤ x.1.block) ∧ x.1.block < W0.heap.size ∧ x.1.block ≠ w.heap.size + 1) := fun x hx' => by
            have h1 := (hx x hx').2
            omega
          obtain ⟨r0, r1, r2, r3⟩ := hbr5.cells
          have f0 := hbr5.frz 0
          have f1 := hbr5.frz 1
          have f2 := hbr5.frz 2
          have f3 := hbr5.frz 3
          obtain ⟨s0, s1, s2, s3⟩ := (hbr5.set4 (.int .i64 k) (.slice na nn nc) (.slice ra rn rc) (.slice ka kn kc)).cells
          clear hL hx hbr5
          subst k2
          go_enter Try.func71, Try.ntmps71
          go_upto_region 2 with fail
          rw [← HW0.out]
          go_wp2_with fail
          refine bodyPost_ret (v := .agg #[.int .i64 2, .slice na nn nc, .slice ra rn rc, .slice ka kn kc]) (by simp [results, Try.results71, go_sem, s0, s1, s2, s3]) rfl ?_
          exact fin_postS HO5.out HL5.out HB0.out
      · have HE : Hid (nnfC no c = .mk (if no = true then otherK k else k) [] c.role (c.kids.map (nnfC no))) := by unfold Hid; rw [HK.out]; exact nnfC_else (by rw [← HK.out]; exact k3) (by rw [← HK.out]; exact k2)
        have hn0 : nn = 0 := HNf.out k2
        subst hn0
        have hk3 : (k == 3) = false := by simpa using k3
        have hk2 : (k == 2) = false := by simpa using k2
        have hkk : k = 0 ∨ k = 1 ∨ k = 4 ∨ k = 5 ∨ k = 6 ∨ k = 7 := by omega
        obtain ⟨k', hk'⟩ : ∃ k', k' = if no = true then otherK k else k := ⟨_, rfl⟩
        have HK' : Hid (k' = if no = true then otherK k else k) := hk'
        obtain ⟨Wb, hWb⟩ : ∃ Wb, Wb = (w.alloc (.cells #[.int .i64 k, .slice na 0 nc, .slice ra rn rc, .slice ka kn kc] 53)).alloc (.cells #[.int .i64 0, .slice none 0 0, .slice none 0 0, .slice none 0 0] 53) := ⟨_, rfl⟩
        have hsb : Wb.heap.size = w.heap.size + 2 := by rw [hWb]; simp
        have HSb : Hid (Wb.heap.size = w.heap.size + 2) := hsb
        have hWb0 : W0 = Wb.alloc (.cells #[.int .i64 k, .slice na 0 nc, .slice ra rn rc, .slice none 0 0] 53) := by rw [HW0.out, hWb]
        have hbb : Below Wb.heap.size Wb W0 := by rw [hWb0]; exact (Below.refl _ _).alloc (Nat.le_refl _) _
        have HBb : Hid (Below Wb.heap.size Wb W0) := hbb
        have HB0b : Hid (Below w.heap.size w Wb) := by rw [hWb]; exact ((Below.refl _ _).alloc (Nat.le_refl _) _).alloc (by simp) _
        have hbx : BoxC Wb w.heap.size (.int .i64 k) (.slice na 0 nc) (.slice ra rn rc) (.slice ka kn kc) := by rw [hWb]; exact (BoxC.new w _ _ _ _).below ((Below.refl _ _).alloc (Nat.le_refl _) _) (by simp)
        have hbr : BoxC Wb (w.heap.size + 1) (.int .i64 0) (.slice none 0 0) (.slice none 0 0) (.slice none 0 0) := by
          rw [hWb]
          have := BoxC.new (w.alloc (.cells #[.int .i64 k, .slice na 0 nc, .slice ra rn rc, .slice ka kn kc] 53)) (.int .i64 0) (.slice none 0 0) (.slice none 0 0) (.slice none 0 0)
          rwa [World.size_alloc] at this
        have HBxb : Hid (BoxC Wb w.heap.size (.int .i64 k) (.slice na 0 nc) (.slice ra rn rc) (.slice ka kn kc)) := hbx
        have HBrb : Hid (BoxC Wb (w.heap.size + 1) (.int .i64 0) (.slice none 0 0) (.slice none 0 0) (.slice none 0 0)) := hbr
        have hlw : w.heap.size < W0.heap.size := by have := HS0.out; omega
        have hlo : w.heap.size + 2 < W0.heap.size := by have := HS0.out; omega
        have hol : w.heap.size ≠ w.heap.size + 2 := by omega
        clear hk k3 k2 hk' hWb hWb0 hbb hbx hbr hsb HBx HBr HR0' HNf
        go_enter Try.func71, Try.ntmps71
        go_upto_region 2 with fail
        rw [← HW0.out]
        go_upto_if 32 with fail
        go_cut [] (fun W => BoxC W (w.heap.size + 2) (.int .i64 k') (.slice na 0 nc) (.slice ra rn rc) (.slice none 0 0) ∧ Below Wb.heap.size Wb W)
        case first =>
          cases no with
          | false =>
            have HKe : Hid (k' = k) := by unfold Hid; rw [HK'.out]; rfl
            go_wp2_with fail
            go_meet
            case rel => rw [HKe.out]; exact ⟨HBo.out, HBb.out⟩
          | true =>
            have HFi : Hid (∀ {x : World}, BoxC x (w.heap.size + 2) (.int .i64 k) (.slice na 0 nc) (.slice ra rn rc) (.slice none 0 0) → Below Wb.heap.size Wb x → BoxC (x.setCell ⟨w.heap.size + 2, 0, none⟩ (.int .i64 k')) (w.heap.size + 2) (.int .i64 k') (.slice na 0 nc) (.slice ra rn rc) (.slice none 0 0) ∧ Below Wb.heap.size Wb (x.setCell ⟨w.heap.size + 2, 0, none⟩ (.int .i64 k'))) := fun h1 h2 => ⟨h1.set0 _, h2.setCell (by show Wb.heap.size ≤ w.heap.size + 2; have := HSb.out; omega) _⟩
            have HKe : Hid (k' = otherK k) := by unfold Hid; rw [HK'.out]; rfl
            clear HK' HE HK HKc
            rcases hkk with rfl | rfl | rfl | rfl | rfl | rfl
            all_goals
              go_wp2_with fail
              go_meet
              case rel =>
                have e := HKe.out
                simp [otherK] at e
                have h1 := HFi.out HBo.out HBb.out
                subst e
                exact ⟨h1.1.below ((Below.refl _ _).alloc (Nat.le_refl _) _) h1.1.lt, h1.2.alloc h1.2.size _⟩
        case rest =>
          obtain ⟨Wc, hWc⟩ : ∃ W, W = wc := ⟨_, rfl⟩
          subst hWc
          obtain ⟨hbo, hbel⟩ := hcut
          obtain ⟨br, orr, hrow0, hrbl⟩ := HR.out.ow
          have hrlen := HR.out.len
          have hbelw : Below w.heap.size w Wc := HB0b.out.trans (hbel.mono HB0b.out.size)
          have HSt : Hid (StatS Wb hi Wc.heap.size (w.heap.size + 2) [] c.role 0 br) := ⟨hbo.lt, by have := HSb.out; omega, by have := HSb.out; omega, .inl rfl, by
            by_cases hr0 : c.role.length = 0
            · exact .inl hr0
            · refine .inr ?_
              have := hrbl (⟨br, orr + 0, none⟩, .u8) (mem_leafB.2 ⟨0, by omega, rfl⟩)
              have h2 := hbo.lt
              simp only at this
              omega⟩
          have HI0 : Hid (InvS Wb hi Wc.heap.size (w.heap.size + 2) (d + 1) k' (.slice na 0 nc) (.slice ra rn rc) [] c.role 0 0 br orr Wc (.slice none 0 0) [] [] []) := ⟨RowK.nil _ _ _, fun x hx => by simp at hx, hbo, ⟨na, nc, rfl, ⟨rfl, ⟨Nat.zero_le _, by have := HN.out.fits; omega⟩, by simp, .inl rfl⟩⟩, ⟨ra, rc, by rw [hrlen], by
            rw [hrlen]
            exact hrow0.keep (fun x hx => hbelw.block _ (Nat.lt_of_lt_of_le (hrbl x hx).2 hhi))⟩, hbel, Nat.le_refl _⟩
          have hbr1 : c.role.length = 0 ∨ br < hi := by
            by_cases hr0 : c.role.length = 0
            · exact .inl hr0
            · have := hrbl (⟨br, orr + 0, none⟩, .u8) (mem_leafB.2 ⟨0, by omega, rfl⟩)
              exact .inr this.2
          have HBr1 : Hid (c.role.length = 0 ∨ br < hi) := hbr1
          have hknb : kn ≤ 1048576 := by have := HBk.out; have := length_le_bulks c.kids; have := HKL.out; omega
          obtain ⟨i0, hi0, hz0, hz1, hz2⟩ := info_parts Try.infoCon4
          clear b0 b1 b2 b3 o0 o1 o2 o3 of0 of3 hbo hbel hrow0 hrbl hbr1 hbelw HBo
          go_wp2_with fail
          go_loopw [6] (fun i wr => ∃ (j : Nat) (kv : Value) (Ls : List (List (Addr × IntKind))) (xs : List Value), j ≤ kn ∧ i = .int .i64 j ∧ InvS Wb hi Wc.heap.size (w.heap.size + 2) (d + 1) k' (.slice na 0 nc) (.slice ra rn rc) [] c.role 0 0 br orr wr kv ((c.kids.take j).map (nnfC no)) Ls xs) (fun i _ => kn - (intOf i).toNat)
          case atStart => exact ⟨0, .slice none 0 0, [], [], Nat.zero_le _, rfl, HI0.out⟩
          case round =>
            obtain ⟨j, kv, Ls, xs, hj, rfl, hinv⟩ := hrel
            have HI : Hid (InvS Wb hi Wc.heap.size (w.heap.size + 2) (d + 1) k' (.slice na 0 nc) (.slice ra rn rc) [] c.role 0 0 br orr wr kv ((c.kids.take j).map (nnfC no)) Ls xs) := hinv
            have hbc : BoxC wr w.heap.size (.int .i64 k) (.slice na 0 nc) (.slice ra rn rc) (.slice ka kn kc) := HBxb.out.below hinv.bel (by have := HSb.out; omega)
            obtain ⟨b0, b1, b2, b3⟩ := hbc.cells
            obtain ⟨o0, o1, o2, o3⟩ := hinv.box.cells
            have HBwr : Hid (Below w.heap.size w wr) := HB0b.out.trans (hinv.bel.mono HB0b.out.size)
            by_cases hlt : j < kn
            · have hjl : j < c.kids.length := by rw [HKL.out]; exact hlt
              have hji : (j : Int) < (kn : Int) := by omega
              have HTs : Hid ((c.kids.take (j + 1)).map (nnfC no) = (c.kids.take j).map (nnfC no) ++ [nnfC no (c.kids.getD j CN.zero)]) := by unfold Hid; rw [take_succ_getD _ CN.zero _ hjl, List.map_append]; rfl
              have HTl : Hid (((c.kids.take j).map (nnfC no)).length = j) := by unfold Hid; rw [List.length_map, List.length_take]; omega
              have HKb : Hid ((c.kids.getD j CN.zero).bulk ≤ 1048576) := by unfold Hid; have := getD_bulk_le c.kids j hjl; have := HBk.out; omega
              have HWf : Hid (wfC (c.kids.getD j CN.zero) = true) := wfL_getD _ _ hjl HWk.out
              have hR := HKs.out.below HBwr.out hhi
              rcases hR.cells with hz | ⟨b, off, e1, _, hbhi, hc⟩
              · omega
              · subst e1
                obtain ⟨v0, v1, v2, v3, q0, q1, q2, q3, hrd⟩ := hc j hlt
                obtain ⟨yk, yna, ynn, ync, yra, yrn, yrc, yka, ykn, ykc, rfl, rfl, rfl, rfl⟩ := hrd.sh.form
                have HKid : Hid (RdC lo hi wr.drew d (.agg #[.int .i64 yk, .slice yna ynn ync, .slice yra yrn yrc, .slice yka ykn ykc]) (c.kids.getD j CN.zero)) := hrd.below (Below.refl wr.heap.size wr).drew (Nat.le_trans hhi HBwr.out.size)
                have hh4 : hi ≤ wr.drew.heap.size := Nat.le_trans hhi HBwr.out.size
                clear hR hc hrd hinv hbc
                go_upto_region 14 with fail
                first | go_region_law (first
                  | (refine step_append_lies _ rfl (.tmp 47) (.tmp 55) 26 rfl Wc.heap.size 53 i0 (.agg #[.int .i64 0, .slice none 0 0, .slice none 0 0, .slice none 0 0]) 4 80 Try.underlying26 hi0 hz0 hz1 hz2 rfl (by decide) kv j xs (by simp [Act.eval]) HRow5.out ⟨w5.heap.size, 0, none⟩ 1 1 [.int .i64 zk, .slice zna znn znc, .slice zra zrn zrc, .slice zka zkn zkc] (by simp [Act.eval]) rfl (new4 _ _ _ _ _ _ _ rfl) (one4 _ _ _ _ _ _ _ _ _ _) (by decide) (by unfold maxLen; omega) (by omega) hsz5 _ rfl ?_; intro g cap w6 hown hgrow hat hlt6; have HA : Hid (BoxC w6 (w.heap.size + 2) (.int .i64 k') (.slice na 0 nc) (.slice ra rn rc) kv ∧ InvS Wb hi Wc.heap.size (w.heap.size + 2) (d + 1) k' (.slice na 0 nc) (.slice ra rn rc) [] c.role 0 0 br orr (w6.setCell ⟨w.heap.size + 2, 3, none⟩ (.slice (some ⟨g, 0, none⟩) (j + 1) cap)) (.slice (some ⟨g, 0, none⟩) (j + 1) cap) ((c.kids.take j).map (nnfC no) ++ [nnfC no (c.kids.getD j CN.zero)]) (Ls ++ [L5]) (xs ++ [.int .i64 zk, .slice zna znn znc, .slice zra zrn zrc, .slice zka zkn zkc])) := InvS.app HSt.out HI5.out HO5.out HL5.out hB5 HkB.out (by rw [HTl.out]) hown hgrow hat; obtain ⟨_, _, _, o36⟩ := HA.out.1.cells; have f36 := HA.out.1.frz 3; clear hown hgrow hat)
                  | (go_simp; refine (HH.out _ (c.kids.getD j CN.zero) no _ lo hi HKid.out hh4 HKb.out HWf.out).mono ?_; rintro e w5 ⟨v5, L5, rfl, hO5, hl5, hb5⟩; obtain ⟨zna, znn, znc, zra, zrn, zrc, zka, zkn, zkc, rfl⟩ := hO5.agg; obtain ⟨zk, hzk⟩ : ∃ zk, zk = (nnfC no (c.kids.getD j CN.zero)).kind := ⟨_, rfl⟩; rw [← hzk] at hO5; rw [← hzk]; have HB5 : Hid (Below wr.heap.size wr w5) := (Below.refl _ _).drew.trans hb5; have HI5a : Hid (InvS Wb hi Wc.heap.size (w.heap.size + 2) (d + 1) k' (.slice na 0 nc) (.slice ra rn rc) [] c.role 0 0 br orr w5 kv ((c.kids.take j).map (nnfC no)) Ls xs) := HI.out.below HB5.out; have HB5b : Hid (Below w5.heap.size w5 (w5.alloc (.cells #[.int .i64 zk, .slice zna znn znc, .slice zra zrn zrc, .slice zka zkn zkc] 53))) := (Below.refl _ _).alloc (Nat.le_refl _) _; have HI5 : Hid (InvS Wb hi Wc.heap.size (w.heap.size + 2) (d + 1) k' (.slice na 0 nc) (.slice ra rn rc) [] c.role 0 0 br orr (w5.alloc (.cells #[.int .i64 zk, .slice zna znn znc, .slice zra zrn zrc, .slice zka zkn zkc] 53)) kv ((c.kids.take j).map (nnfC no)) Ls xs) := HI5a.out.below HB5b.out; have HO5 : Hid (OwC (w5.alloc (.cells #[.int .i64 zk, .slice zna znn znc, .slice zra zrn zrc, .slice zka zkn zkc] 53)) (d + 1) (.agg #[.int .i64 zk, .slice zna znn znc, .slice zra zrn zrc, .slice zka zkn zkc]) (nnfC no (c.kids.getD j CN.zero)) L5) := OwC.below hO5 HB5b.out (fun x hx => (hl5 x hx).2); have HL5 : Hid (∀ x ∈ L5, (x.1.block < hi ∨ wr.heap.size ≤ x.1.block) ∧ x.1.block < (w5.alloc (.cells #[.int .i64 zk, .slice zna znn znc, .slice zra zrn zrc, .slice zka zkn zkc] 53)).heap.size) := (fun x hx => ⟨(hl5 x hx).1, Nat.lt_of_lt_of_le (hl5 x hx).2 HB5b.out.size⟩); have HRow5 : Hid ((w5.alloc (.cells #[.int .i64 zk, .slice zna znn znc, .slice zra zrn zrc, .slice zka zkn zkc] 53)).ownsRow Wc.heap.size 53 4 kv j xs) := (by have := HI5.out.row.row; rw [HTl.out] at this; exact this); have hB5 : Wc.heap.size ≤ wr.heap.size := HI.out.sz; have HkB : Hid (∀ g, kv.ownBlock = some g → g < wr.heap.size) := (fun g hg => (HI.out.row.row.lt g hg).2); have hsz5 : Wc.heap.size ≤ (w5.alloc (.cells #[.int .i64 zk, .slice zna znn znc, .slice zra zrn zrc, .slice zka zkn zkc] 53)).heap.size := HI5.out.sz; obtain ⟨_, _, _, o35⟩ := HI5a.out.box.cells; have hlo5 : w.heap.size + 2 < w5.heap.size := HI5a.out.box.lt; clear hO5 hb5 hzk hl5)) | fail
                all_goals
                  go_wp2_with fail
                  go_roundw
                  case rel => exact ⟨j + 1, _, _, _, by omega, by go_num, by rw [HTs.out]; exact HA.out.2⟩
                  case measure => simp [intOf]; omega
            · have HTk : Hid (c.kids.take j = c.kids) := List.take_of_length_le (by rw [HKL.out]; omega)
              have hbr5 : BoxC wr (w.heap.size + 1) (.int .i64 0) (.slice none 0 0) (.slice none 0 0) (.slice none 0 0) := HBrb.out.below hinv.bel (by have := HSb.out; omega)
              obtain ⟨r0, r1, r2, r3⟩ := hbr5.cells
              have f0 := hbr5.frz 0
              have f1 := hbr5.frz 1
              have f2 := hbr5.frz 2
              have f3 := hbr5.frz 3
              obtain ⟨kka, kkn, kkc, rfl⟩ := hinv.row.isSlice
              have hszc := HSt.out.o1
              obtain ⟨L, hL, hLb⟩ := hinv.done (fun b => b < hi ∨ w.heap.size + 2 ≤ b) (.inl rfl) (by
                rcases HBr1.out with e | e
                · exact .inl e
                · exact .inr (.inl e)) (fun b _ hb => by omega)
              have HL : Hid (OwC wr (d + 1 + 1) (.agg #[.int .i64 k', .slice na 0 nc, .slice ra rn rc, .slice kka kkn kkc]) (nnfC no c) L) := by
                unfold Hid
                rw [HE.out, ← HK'.out]
                rw [HTk.out] at hL
                exact hL
              have HLb : Hid (∀ x ∈ L, (x.1.block < hi ∨ w.heap.size ≤ x.1.block) ∧ x.1.block < wr.heap.size ∧ x.1.block ≠ w.heap.size + 1) := fun x hx => by
                have := hLb x hx
                omega
              obtain ⟨s0, s1, s2, s3⟩ := (hbr5.set4 (.int .i64 k') (.slice na 0 nc) (.slice ra rn rc) (.slice kka kkn kkc)).cells
              clear hL hLb hinv hbr5 hbc
              go_wp2_with fail
              refine bodyPost_ret (v := .agg #[.int .i64 k', .slice na 0 nc, .slice ra rn rc, .slice kka kkn kkc]) (by simp [results, Try.results71, go_sem, s0, s1, s2, s3]) rfl ?_
              exact fin_postS HL.out HLb.out HBwr.out

theorem nfP_any : ∀ d, NfP d
  | 0 => nfP_of (fun d' h => by omega)
  | d + 1 => nfP_of (fun d' h => by obtain rfl : d = d' := (by omega); exact nfP_any d)

end Go.Proofs.Ytoeoddfhofcpcaa
