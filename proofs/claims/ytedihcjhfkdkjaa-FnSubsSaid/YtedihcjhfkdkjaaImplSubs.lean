/- The program's Subs: all parts, each once, from the outside on, in memory of their own. -/
import Derived.Test.YtedihcjhfkdkjaaNG21
import Derived.Test.YtedihcjhfkdkjaaNG2
import Derived.Test.YtedihcjhfkdkjaaConClone2
import Derived.Test.YtedihcjhfkdkjaaNG11
namespace Go.Proofs.Ytedihcjhfkdkjaa
open Go.RowKit Go.Shelf

attribute [local go_sem] Oper.semAt_some

theorem place_in {l : List CN} {c : CN} (h : amongC l c = true) : 0 ≤ placeC l c := by
  unfold placeC
  cases e : (List.range l.length).find? (fun i => sameC (l.getD i CN.zero) c) with
  | some i => simp
  | none =>
    rw [List.find?_eq_none] at e
    unfold amongC at h
    rw [List.any_eq_true] at h
    obtain ⟨x, hx, hs⟩ := h
    obtain ⟨i, hi, rfl⟩ := List.getElem_of_mem hx
    exact absurd (by simpa [List.getD, hi] using hs) (e i (List.mem_range.2 hi))

theorem place_out {l : List CN} {c : CN} (h : amongC l c = false) : placeC l c = -1 := placeC_none fun i hi => by
  cases e : sameC (l.getD i CN.zero) c with
  | false => rfl
  | true => rw [among_of hi e] at h; cases h

set_option maxHeartbeats 1000000 in
theorem implSubs_no {d : Nat} {v : Value} {c : CN} {w : World} {lo hi : Nat} (h : RdC lo hi w d v c) (hhi : hi ≤ w.heap.size) (hbk : c.bulk ≤ 1048576) (hok : conOk c = false) :
    Calls Try.prog 5 #[v] w fun e w' => ∃ u Ls xs, e = .returned u ∧ AnsL w.heap.size w' 209 u (subsN c) Ls xs ∧ Below w.heap.size w w' := by
  have HRd : Hid (RdC lo hi w d v c) := h
  obtain ⟨k, na, nn, nc, ra, rn, rc, ka, kn, kc, rfl⟩ := h.shape
  have hb0 : Below w.heap.size w (w.alloc (.cells #[.int .i64 k, .slice na nn nc, .slice ra rn rc, .slice ka kn kc] 25)) := (Below.refl _ _).alloc (Nat.le_refl _) _
  have HB0 : Hid (Below w.heap.size w (w.alloc (.cells #[.int .i64 k, .slice na nn nc, .slice ra rn rc, .slice ka kn kc] 25))) := hb0
  have HR0 : Hid (RdC lo hi (w.alloc (.cells #[.int .i64 k, .slice na nn nc, .slice ra rn rc, .slice ka kn kc] 25)) d (.agg #[.int .i64 k, .slice na nn nc, .slice ra rn rc, .slice ka kn kc]) c) := HRd.out.below hb0 hhi
  have HE : Hid (subsN c = []) := by unfold Hid subsN; rw [hok]; rfl
  clear hb0 h
  go_enter Try.func5, Try.ntmps5
  go_wp2_with fail
  refine (implConOk_any HR0.out (Nat.le_trans hhi HB0.out.size) hbk).mono ?_
  rintro e w1 ⟨rfl, hb1⟩
  rw [hok]
  have HB1 : Hid (Below w.heap.size w w1) := HB0.out.trans (hb1.mono HB0.out.size)
  clear hb1
  go_wp2_with fail
  go_ret
  exact ⟨_, [], [], rfl, by rw [HE.out]; exact ⟨RowK.nil _ _ _, SepK.nil _ _⟩, HB1.out⟩

set_option maxRecDepth 100000 in
set_option maxHeartbeats 8000000 in
theorem implSubs_yes {d : Nat} {v : Value} {c : CN} {w : World} {lo hi : Nat} (h : RdC lo hi w d v c) (hhi : hi ≤ w.heap.size) (hbk : c.bulk ≤ 1048576) (hok : conOk c = true) :
    Calls Try.prog 5 #[v] w fun e w' => ∃ u Ls xs, e = .returned u ∧ AnsL w.heap.size w' 209 u (subsN c) Ls xs ∧ Below w.heap.size w w' := by
  have HRd : Hid (RdC lo hi w d v c) := h
  obtain ⟨k, na, nn, nc, ra, rn, rc, ka, kn, kc, rfl⟩ := h.shape
  have hb0 : Below w.heap.size w (w.alloc (.cells #[.int .i64 k, .slice na nn nc, .slice ra rn rc, .slice ka kn kc] 25)) := (Below.refl _ _).alloc (Nat.le_refl _) _
  have HB0 : Hid (Below w.heap.size w (w.alloc (.cells #[.int .i64 k, .slice na nn nc, .slice ra rn rc, .slice ka kn kc] 25))) := hb0
  have HR0 : Hid (RdC lo hi (w.alloc (.cells #[.int .i64 k, .slice na nn nc, .slice ra rn rc, .slice ka kn kc] 25)) d (.agg #[.int .i64 k, .slice na nn nc, .slice ra rn rc, .slice ka kn kc]) c) := HRd.out.below hb0 hhi
  have HBx0 : Hid (BoxC (w.alloc (.cells #[.int .i64 k, .slice na nn nc, .slice ra rn rc, .slice ka kn kc] 25)) w.heap.size (.int .i64 k) (.slice na nn nc) (.slice ra rn rc) (.slice ka kn kc)) := BoxC.new w _ _ _ _
  have HE : Hid (subsN c = putsN [] (parts c 1)) := by unfold Hid subsN; rw [hok]; rfl
  have hb208 : c.bulk ≤ 208 := bulk_of_ok hok
  have HN16 : Hid ((parts c 1).length ≤ 16) := by unfold Hid; have hokc := hok; unfold conOk at hokc; rw [Bool.and_eq_true] at hokc; exact of_decide_eq_true hokc.1
  clear hb0 h
  refine (callsIn_wide (n := 6)).1 ?_
  refine callsIn_of_wp_marks Try.func5 rfl trivial ?_ rfl
  simp only [Try.ntmps5, List.size_toArray, List.length_cons, List.length_nil, Nat.reduceAdd, Nat.reduceSub, Array.replicate_succ, Array.replicate_zero, List.push_toArray, List.append_toArray, List.nil_append, List.cons_append]
  gi_wp2_with fail
  refine ⟨trivial, ?_⟩
  refine (callsIn_wide.2 (implConOk_any HR0.out (Nat.le_trans hhi HB0.out.size) hbk)).mono ?_
  rintro e w1 ⟨rfl, hb1⟩
  rw [hok]
  have HB1 : Hid (Below w.heap.size w w1) := HB0.out.trans (hb1.mono HB0.out.size)
  have HBx1 : Hid (BoxC w1 w.heap.size (.int .i64 k) (.slice na nn nc) (.slice ra rn rc) (.slice ka kn kc)) := HBx0.out.below hb1 HBx0.out.lt
  obtain ⟨q0, q1, q2, q3⟩ := HBx1.out.cells
  have hs1 : w.heap.size < w1.heap.size := HBx1.out.lt
  have hs1' : w.heap.size ≠ w1.heap.size := by omega
  clear hb1
  gi_wp2_with (first | (refine ⟨trivial, ?_⟩; gi_at_call 17; refine (conTree_in _ _ _ _ _ _ _ _ _ _ _ _).mono ?_; rintro e w' ⟨rfl, rfl⟩) | (refine ⟨trivial, ?_⟩; gi_at_call 18; refine (all_in _ _ _ _ _ _ _ _ _ _ _ _).mono ?_; rintro e w' ⟨rfl, rfl⟩))
  obtain ⟨W0, hW0⟩ : ∃ W0, W0 = ((((w1.alloc (.cells #[.slice none 0 0] 23)).alloc (.cells #[.int .i64 k, .slice na nn nc, .slice ra rn rc, .slice ka kn kc] 25)).alloc (.cells #[.int .i64 k, .slice na nn nc, .slice ra rn rc, .slice ka kn kc, .func (.func 36) #[] #[]] 44)).alloc (.cells #[.int .i64 k, .slice na nn nc, .slice ra rn rc, .slice ka kn kc, .func (.func 36) #[] #[]] 44)) := ⟨_, rfl⟩
  have hsz : W0.heap.size = w1.heap.size + 1 + 1 + 1 + 1 := by rw [hW0]; simp
  have hb0 : Below w.heap.size w W0 := by rw [hW0]; exact (((HB1.out.alloc HB1.out.size _).alloc (by simp; omega) _).alloc (by simp; omega) _).alloc (by simp; omega) _
  have hI1 : Boxed W0 w1.heap.size 23 (.slice none 0 0) := by
    rw [hW0]; exact (((Boxed.new w1 23 (.slice none 0 0)).alloc _).alloc _).alloc _
  have hBT : BoxT W0 (w1.heap.size + 1 + 1 + 1) k na nn nc ra rn rc ka kn kc := by
    rw [hW0]; have := World.alloc_heap_new (((w1.alloc (.cells #[.slice none 0 0] 23)).alloc (.cells #[.int .i64 k, .slice na nn nc, .slice ra rn rc, .slice ka kn kc] 25)).alloc (.cells #[.int .i64 k, .slice na nn nc, .slice ra rn rc, .slice ka kn kc, .func (.func 36) #[] #[]] 44)) (.cells #[.int .i64 k, .slice na nn nc, .slice ra rn rc, .slice ka kn kc, .func (.func 36) #[] #[]] 44)
    simp only [World.size_alloc] at this; exact this
  rw [← hW0]
  clear hW0
  have hI0 : InvL (lo := lo) (hi := hi) (w0 := w) w.heap.size (w1.heap.size + 1 + 1 + 1 + 1) w1.heap.size w [] W0 := ⟨⟨_, [], [], hI1, RowK.nil _ _ _, SepK.nil _ _⟩, hb0, by omega⟩
  obtain ⟨i0, hi0, hz0, hz1, hz2⟩ := info_parts Try.infoCon4
  refine wpIn_rangeFunc_ownH rfl (by omega) (gf := 37) (lb := #[.pointer (some ⟨w1.heap.size + 1 + 1 + 1, 0, none⟩)]) rfl trivial (enters_of Try.func37 (by kernel_rfl) rfl)
    (partsL_stops (lo := lo) (hi := hi) (B := w.heap.size) (n1 := w1.heap.size + 1 + 1 + 1 + 1) (lb := w1.heap.size) 5 (w1.heap.size + 1 + 1 + 1) hhi (by omega) (by omega) c HRd.out hb208 hb0 (by omega) hBT hI0.ownLt) KpL.trans
    (fun W l o o' hl hW hc _ => KpL.putObj W l o o' (by omega) (by omega) hW hc) (Below.refl _ _) (fun _ => rfl)
    (InvL w.heap.size (w1.heap.size + 1 + 1 + 1 + 1) w1.heap.size w) (fun _ _ _ => False) (InvL.own (by omega) (by omega)) (fun _ _ _ _ _ h _ _ => h)
    hI0
    (AxL (w1.heap.size + 1 + 1 + 1 + 1) w1.heap.size (fun dv pv bx => #[.agg #[.int .i64 k, .slice na nn nc, .slice ra rn rc, .slice ka kn kc], .pointer (some ⟨w.heap.size, 0, none⟩), .slice none 0 0, .pointer (some ⟨w1.heap.size, 0, none⟩), undef, bx, .agg #[.int .i64 k, .slice na nn nc, .slice ra rn rc, .slice ka kn kc], .bool true, .bool false, .agg #[.int .i64 k, .slice na nn nc, .slice ra rn rc, .slice ka kn kc], .agg #[.int .i64 k, .slice na nn nc, .slice ra rn rc, .slice ka kn kc, .func (.func 36) #[] #[]], .func (.func 37) #[] #[.pointer (some ⟨w1.heap.size + 1 + 1 + 1, 0, none⟩)], dv, pv, undef, undef, undef, undef, undef, undef, undef, undef, undef, undef, undef, undef])) (AxL.stays (by omega) (by omega)) ?assign ?body ?done ?stop
  case assign =>
    rintro l pre ⟨deep, v, cx, dx, rd, bk⟩ W K hi hK
    obtain ⟨xk, xna, xnn, xnc, xra, xrn, xrc, xka, xkn, xkc, rfl⟩ := rd.shape
    unfold encL
    gi_wp2
    have hlt := hi.size
    have hB : Below W.heap.size W (W.alloc (.cells #[.int .i64 xk, .slice xna xnn xnc, .slice xra xrn xrc, .slice xka xkn xkc] 25)) := (Below.refl _ _).alloc (Nat.le_refl _) _
    exact hK _ _ ((keepsOthers_below hB).from _) (KpL.of_below hB (by omega) (by omega)) (hi.below (by omega) hB)
      ⟨W.heap.size, xk, xna, xnn, xnc, xra, xrn, xrc, xka, xkn, xkc, hi.size, OwnAt.ne (OwnAt.below hB (by omega) hi.ownLt) (Nat.le_refl _), rfl, BoxC.new W _ _ _ _, rfl⟩
  case body =>
    rintro l pre ⟨deep, v, cx, dx, rd, bk⟩ a' W hl ⟨r, hr⟩ hI ⟨Bx, xk, xna, xnn, xnc, xra, xrn, xrc, xka, xkn, xkc, hBx, hBo, hv, hbox, rfl⟩ hlen
    dsimp only at hv
    subst hv
    have HI : Hid (InvL w.heap.size (w1.heap.size + 1 + 1 + 1 + 1) w1.heap.size w pre W) := hI
    obtain ⟨⟨u, Ls, xs, hu, hA⟩, hbel, hszW⟩ := hI
    obtain ⟨ua, ucap, hue, hrdl⟩ := rowK_rd hA.row hA.sep.ge
    obtain ⟨n, hn⟩ : ∃ n, n = (putsN [] (pre.map ItemL.m)).length := ⟨_, rfl⟩
    rw [← hn] at hue hrdl
    subst hue
    have HRow : Hid (W.ownsRow (w1.heap.size + 1 + 1 + 1 + 1) 25 4 (.slice ua n ucap) n xs) := by have := hA.row.row; rw [← hn] at this; exact this
    have hn16 : n ≤ 16 := by have h1 := putsN_len [] (pre.map ItemL.m); have := HN16.out; simp only [List.length_nil, List.length_map] at h1; omega
    have HNn : Hid (n = (putsN [] (pre.map ItemL.m)).length) := hn
    have HBu : Hid (Boxed W w1.heap.size 23 (.slice ua n ucap)) := hu
    have HA : Hid (AnsL (w1.heap.size + 1 + 1 + 1 + 1) W 209 (.slice ua n ucap) (putsN [] (pre.map ItemL.m)) Ls xs) := hA
    have HBel : Hid (Below w.heap.size w W) := hbel
    have HRl : Hid (RdL (RdC (w1.heap.size + 1 + 1 + 1 + 1) W.heap.size W 209) (w1.heap.size + 1 + 1 + 1 + 1) W.heap.size W ua n ucap (putsN [] (pre.map ItemL.m))) := hrdl
    have cL := Boxed.cell hu
    have HBo : Hid ((Value.slice ua n ucap).ownBlock ≠ some Bx) := by unfold Hid; rw [← own_boxed hu]; exact hBo
    have HBox : Hid (BoxC W Bx (.int .i64 xk) (.slice xna xnn xnc) (.slice xra xrn xrc) (.slice xka xkn xkc)) := hbox
    have hBxl : Bx < W.heap.size := hbox.lt
    obtain ⟨p0, p1, p2, p3⟩ := hbox.cells
    have HRx : Hid (RdC lo hi W dx (.agg #[.int .i64 xk, .slice xna xnn xnc, .slice xra xrn xrc, .slice xka xkn xkc]) cx) := rd.below hbel hhi
    have hhW : hi ≤ W.heap.size := by omega
    obtain ⟨am, ham⟩ : ∃ am, am = amongC (putsN [] (pre.map ItemL.m)) cx := ⟨_, rfl⟩
    have HAm : Hid (am = amongC (putsN [] (pre.map ItemL.m)) cx) := ham
    clear hA hbel hrdl hbox hr hlen hn ham hBo hu
    gi_wp2
    refine ⟨trivial, ?_⟩
    refine (CallsIn.inRound l (callsIn_wide.2 (conIn_any HRl.out HRx.out (Nat.le_refl _) hhW (by omega)))).mono ?_
    rintro e w2 ⟨rfl, hb2⟩
    obtain ⟨pz, hpz⟩ : ∃ pz, pz = placeC (putsN [] (pre.map ItemL.m)) cx := ⟨_, rfl⟩
    rw [← hpz]
    have HPz : Hid (pz = placeC (putsN [] (pre.map ItemL.m)) cx) := hpz
    have HB2 : Hid (Below W.heap.size W w2) := hb2
    have hs2 := hb2.size
    clear hb2 hpz
    cases am with
    | true =>
      have hp0 : 0 ≤ pz := by rw [HPz.out]; exact place_in HAm.out.symm
      have hp1 : (pz == -1) = false := by simp; omega
      have hp2 : decide (pz = -1) = false := by simp; omega
      gi_wp2
      exact ⟨(keepsOthers_below HB2.out).from _, KpL.of_below HB2.out (by omega) (by omega), (HI.out.below (by omega) HB2.out).stay HAm.out.symm⟩
    | false =>
      have hpz : pz = -1 := by rw [HPz.out]; exact place_out HAm.out.symm
      subst hpz
      gi_wp2
      have HI2 : Hid (InvL w.heap.size (w1.heap.size + 1 + 1 + 1 + 1) w1.heap.size w pre w2) := HI.out.below (by omega) HB2.out
      have HBu2 : Hid (Boxed w2 w1.heap.size 23 (.slice ua n ucap)) := boxed_below HBu.out HB2.out HBu.out.lt
      have HA2 : Hid (AnsL (w1.heap.size + 1 + 1 + 1 + 1) w2 209 (.slice ua n ucap) (putsN [] (pre.map ItemL.m)) Ls xs) := HA.out.below HB2.out
      have HBel2 : Hid (Below w.heap.size w w2) := HI2.out.bel
      have HBox2 : Hid (BoxC w2 Bx (.int .i64 xk) (.slice xna xnn xnc) (.slice xra xrn xrc) (.slice xka xkn xkc)) := HBox.out.below HB2.out hBxl
      have hBx2 : Bx < w2.heap.size := by omega
      have HRx2 : Hid (RdC lo hi w2 dx (.agg #[.int .i64 xk, .slice xna xnn xnc, .slice xra xrn xrc, .slice xka xkn xkc]) cx) := HRx.out.below HB2.out hhW
      have hhi2 : hi ≤ w2.heap.size := by omega
      obtain ⟨V0, hV0⟩ : ∃ V, V = w2.drew := ⟨_, rfl⟩
      have HV0 : Hid (V0 = w2.drew) := hV0
      have HBV0 : Hid (Below w2.heap.size w2 V0) := by unfold Hid; rw [hV0]; exact (Below.refl _ _).drew
      have hsV0 : w2.heap.size ≤ V0.heap.size := HBV0.out.size
      have HS2 : Hid (w2.cell? ⟨Bx, 0, none⟩ = some (.int .i64 xk) ∧ w2.cell? ⟨Bx, 1, none⟩ = some (.slice xna xnn xnc) ∧ w2.cell? ⟨Bx, 2, none⟩ = some (.slice xra xrn xrc) ∧ w2.cell? ⟨Bx, 3, none⟩ = some (.slice xka xkn xkc)) := HBox2.out.cells
      have hmx : Try.prog.follows .mixedOrders = true := by kernel_rfl
      clear hV0 p0 p1 p2 p3 cL
      refine region_held (fun W => W.cell? ⟨Bx, 0, none⟩ = some (.int .i64 xk) ∧ W.cell? ⟨Bx, 1, none⟩ = some (.slice xna xnn xnc) ∧ W.cell? ⟨Bx, 2, none⟩ = some (.slice xra xrn xrc) ∧ W.cell? ⟨Bx, 3, none⟩ = some (.slice xka xkn xkc)) hmx (by kernel_rfl) (fun _ _ h => h) (S4.drew HS2.out) (fun hHeld => ?_)
      rw [← HV0.out] at hHeld ⊢
      refine wpAnyH_take (i := 1) (v := ?_) rfl (by kernel_rfl) (by kernel_rfl) (by kernel_rfl) (fun _ _ _ h => h) (Or.inl ⟨by rfl, ?_⟩) (by assumption) ?_
      rotate_left
      · intro w' hSw
        (try dsimp only at hSw)
        go_simp
        (try with_reducible rfl)
      (try simp only [Act.put])
      (try simp only [List.setIfInBounds_toArray])
      (try simp only [List.set_cons_succ])
      (try simp only [List.set_cons_zero])
      refine wpAnyH_ready (rs := [0, 2, 4]) (by kernel_rfl) (by simp) ?_
      refine AllReadyH.cons rfl (fun K hK => ?_) (AllReadyH.cons rfl (fun K hK => ?_) (AllReadyH.cons rfl (fun K hK => ?_) AllReadyH.nil))
      · skip
        have cLc := Boxed.cell (boxed_below HBu2.out HBV0.out HBu2.out.lt)
        go_simp
        clear cLc
        refine hK.out _ _ ?_ (fun hHeld => ?_)
        · (try dsimp only)
          exact S4.of (HBV0.out.block _ hBx2) HS2.out
        clear hK K
        (try simp only [Act.put])
        (try simp only [List.setIfInBounds_toArray])
        (try simp only [List.set_cons_succ])
        (try simp only [List.set_cons_zero])
        refine wpAnyH_take (i := 3) (v := ?_) rfl (by kernel_rfl) (by kernel_rfl) (by kernel_rfl) (fun _ _ _ h => h) (Or.inl ⟨by rfl, ?_⟩) (by assumption) ?_
        rotate_left
        · intro w' hSw
          (try dsimp only at hSw)
          go_simp
          (try with_reducible rfl)
        (try simp only [Act.put])
        (try simp only [List.setIfInBounds_toArray])
        (try simp only [List.set_cons_succ])
        (try simp only [List.set_cons_zero])
        refine wpAnyH_ready (rs := [2, 4]) (by kernel_rfl) (by simp) ?_
        refine AllReadyH.cons rfl (fun K hK => ?_) (AllReadyH.cons rfl (fun K hK => ?_) AllReadyH.nil)
        · skip
          go_simp
          refine (clP_any dx _ cx V0 lo hi (HRx2.out.below HBV0.out hhi2) (by omega) (by omega)).mono ?_
          rintro e w5x1 ⟨zv, L, rfl, hO, hb5⟩
          obtain ⟨zna, znn, znc, zra, zrn, zrc, zka, zkn, zkc, rfl⟩ := hO.ow.agg
          obtain ⟨zk, hzk⟩ : ∃ zk, zk = cx.kind := ⟨_, rfl⟩
          rw [← hzk] at hO ⊢
          have HBw5x1 : Hid (Below w2.heap.size w2 w5x1) := HBV0.out.trans (hb5.mono hsV0)
          have HOw5x1 : Hid (OwnC w2.heap.size w5x1 209 (.agg #[.int .i64 zk, .slice zna znn znc, .slice zra zrn zrc, .slice zka zkn zkc]) cx L) := (hO.at (by omega)).mono hsV0
          have hsw5x1 : w2.heap.size ≤ w5x1.heap.size := HBw5x1.out.size
          clear hO hb5 hzk
          try dsimp only
          refine hK.out _ _ ?_ (fun hHeld => ?_)
          · (try dsimp only)
            exact S4.of (HBw5x1.out.block _ hBx2) HS2.out
          clear hK K
          (try simp only [Act.put])
          (try simp only [List.setIfInBounds_toArray])
          (try simp only [List.set_cons_succ])
          (try simp only [List.set_cons_zero])
          refine wpAnyH_ready (rs := [4]) (by kernel_rfl) (by simp) ?_
          refine AllReadyH.cons rfl (fun K hK => ?_) AllReadyH.nil
          · skip
            obtain ⟨wzx2, hWz⟩ : ∃ W, W = w5x1.alloc (.cells #[.int .i64 0, .slice none 0 0, .slice none 0 0, .slice none 0 0] 25) := ⟨_, rfl⟩
            have HWwzx2 : Hid (wzx2 = w5x1.alloc (.cells #[.int .i64 0, .slice none 0 0, .slice none 0 0, .slice none 0 0] 25)) := hWz
            have hbz : Below w5x1.heap.size w5x1 wzx2 := by rw [hWz]; exact (Below.refl _ _).alloc (Nat.le_refl _) _
            have HBwzx2 : Hid (Below w2.heap.size w2 wzx2) := HBw5x1.out.trans (hbz.mono hsw5x1)
            have hswzx2 : w2.heap.size ≤ wzx2.heap.size := HBwzx2.out.size
            have HZwzx2 : Hid (BoxC wzx2 w5x1.heap.size (.int .i64 0) (.slice none 0 0) (.slice none 0 0) (.slice none 0 0)) := by unfold Hid; rw [hWz]; exact BoxC.new w5x1 _ _ _ _
            have HOwzx2 : Hid (OwnC w2.heap.size wzx2 209 (.agg #[.int .i64 zk, .slice zna znn znc, .slice zra zrn zrc, .slice zka zkn zkc]) cx L) := HOw5x1.out.below hbz
            clear hWz hbz
            go_simp
            rw [← HWwzx2.out]
            refine hK.out _ _ ?_ (fun hHeld => ?_)
            · (try dsimp only)
              exact S4.of (HBwzx2.out.block _ hBx2) HS2.out
            clear hK K
            (try simp only [Act.put])
            (try simp only [List.setIfInBounds_toArray])
            (try simp only [List.set_cons_succ])
            (try simp only [List.set_cons_zero])
            have HRowc : Hid (wzx2.ownsRow (w1.heap.size + 1 + 1 + 1 + 1) 25 4 (.slice ua n ucap) n xs) := by have := (HA2.out.below HBwzx2.out).row.row; rw [← HNn.out] at this; exact this
            have HBuc : Hid (Boxed wzx2 w1.heap.size 23 (.slice ua n ucap)) := boxed_below HBu2.out HBwzx2.out HBu2.out.lt
            refine wpAnyH_ready (rs := [5]) (by kernel_rfl) (by simp) ?_
            refine AllReadyH.cons rfl (fun K hK => ?_) AllReadyH.nil
            refine step_append_lies _ rfl (.tmp 18) (.tmp 22) 23 rfl (w1.heap.size + 1 + 1 + 1 + 1) 25 i0 (.agg #[.int .i64 0, .slice none 0 0, .slice none 0 0, .slice none 0 0]) 4 80 Try.underlying23 hi0 hz0 hz1 hz2 rfl (by decide) (.slice ua n ucap) n xs (by simp [Act.eval]) HRowc.out ⟨w5x1.heap.size, 0, none⟩ 1 1 [.int .i64 0, .slice none 0 0, .slice none 0 0, .slice none 0 0] (by simp [Act.eval]) rfl (World.news_of_block HZwzx2.out) (one4 _ _ _ _ _ _ _ _ _ _) (by decide) (by unfold maxLen; omega) (by omega) (by omega) _ rfl ?_
            intro g cap w6 hown hgrow hat hlt6
            have HPut := hown
            have h6B : w6.heap[Bx]? = wzx2.heap[Bx]? := hgrow.block Bx (by omega) (fun e => HBo.out e.symm)
            have HS6 : Hid (w6.heap[Bx]? = w2.heap[Bx]?) := h6B.trans (HBwzx2.out.block Bx hBx2)
            have hgB : g ≠ Bx := by
              rcases hat with e | e
              · intro e2; subst e2; exact HBo.out e
              · omega
            have hg1 : (w1.heap.size + 1 + 1 + 1 + 1) ≤ g := by
              rcases hat with e | e
              · exact (HRowc.out.lt g e).1
              · omega
            have hgl : g ≠ w1.heap.size := by omega
            have hlg : w1.heap.size ≠ g := fun e => hgl e.symm
            have hBg : Bx ≠ g := fun e => hgB e.symm
            have hBl : Bx ≠ w1.heap.size := by omega
            have HBu6 : Hid (Boxed w6 w1.heap.size 23 (.slice ua n ucap)) := HBuc.out.kept hgrow (fun e => by have := (HRowc.out.lt _ e.symm).1; omega)
            have HOwn : Hid (w6.ownsRow (w1.heap.size + 1 + 1 + 1 + 1) 25 4 (.slice (some ⟨g, 0, none⟩) (n + 1) cap) (n + 1) (xs ++ [.int .i64 0, .slice none 0 0, .slice none 0 0, .slice none 0 0])) := hown
            have HGrow : Hid (wzx2.grownBy w6 (Value.slice ua n ucap).ownBlock) := hgrow
            have HAt : Hid ((Value.slice ua n ucap).ownBlock = some g ∨ g = wzx2.heap.size) := hat
            have HLx : Hid (xs.length = n * 4) := HRowc.out.1
            have HX : Hid (∀ F : World, Boxed F w1.heap.size 23 (.slice (some ⟨g, 0, none⟩) (n + 1) cap) → F.ownsRow (w1.heap.size + 1 + 1 + 1 + 1) 25 4 (.slice (some ⟨g, 0, none⟩) (n + 1) cap) (n + 1) (xs ++ [.int .i64 zk, .slice zna znn znc, .slice zra zrn zrc, .slice zka zkn zkc]) → (∀ b, b ≠ g → b ≠ w1.heap.size → F.heap[b]? = w6.heap[b]?) → F.heap.size = w6.heap.size → F.os = w6.os → F.tape = w6.tape → F.output = w6.output → KeepsFrom W0.heap.size W F ∧ KpL w.heap.size (w1.heap.size + 1 + 1 + 1 + 1) w1.heap.size W F ∧ InvL w.heap.size (w1.heap.size + 1 + 1 + 1 + 1) w1.heap.size w (pre ++ [(⟨deep, .agg #[.int .i64 xk, .slice xna xnn xnc, .slice xra xrn xrc, .slice xka xkn xkc], cx, dx, rd, bk⟩ : ItemL lo hi w)]) F) := fun F f1 f2 f3 f4 f5 f6 f7 => by
              obtain ⟨r1, r2, r3⟩ := InvL.more (x := (⟨deep, .agg #[.int .i64 xk, .slice xna xnn xnc, .slice xra xrn xrc, .slice xka xkn xkc], cx, dx, rd, bk⟩ : ItemL lo hi w)) (by omega) (by omega) HBu2.out HA2.out HBel2.out (by omega) rfl HAm.out.symm HBwzx2.out HOwzx2.out HNn.out HOwn.out HGrow.out HAt.out hlt6 f1 f2 f3 f4 f5 f6 f7
              exact ⟨((keepsOthers_below HB2.out).trans r1).from _, (KpL.of_below HB2.out (by omega) (by omega)).trans r2, r3⟩
            have d0 : w6.cell? ⟨g, n * 4, none⟩ = some (.int .i64 0) := by rw [HOwn.out.cellAt (n * 4) (by omega), List.getElem?_append_right (by have := HLx.out; omega), HLx.out, Nat.sub_self]; rfl
            have d1 : w6.cell? ⟨g, n * 4 + 1, none⟩ = some (.slice none 0 0) := by rw [HOwn.out.cellAt (n * 4 + 1) (by omega), List.getElem?_append_right (by have := HLx.out; omega), HLx.out, Nat.add_sub_cancel_left]; rfl
            have d2 : w6.cell? ⟨g, n * 4 + 2, none⟩ = some (.slice none 0 0) := by rw [HOwn.out.cellAt (n * 4 + 2) (by omega), List.getElem?_append_right (by have := HLx.out; omega), HLx.out, Nat.add_sub_cancel_left]; rfl
            have d3 : w6.cell? ⟨g, n * 4 + 3, none⟩ = some (.slice none 0 0) := by rw [HOwn.out.cellAt (n * 4 + 3) (by omega), List.getElem?_append_right (by have := HLx.out; omega), HLx.out, Nat.add_sub_cancel_left]; rfl
            have e0 : w6.frozen? ⟨g, n * 4, none⟩ = false := HOwn.out.frozenAt _
            have e1 : w6.frozen? ⟨g, n * 4 + 1, none⟩ = false := HOwn.out.frozenAt _
            have e2 : w6.frozen? ⟨g, n * 4 + 2, none⟩ = false := HOwn.out.frozenAt _
            have e3 : w6.frozen? ⟨g, n * 4 + 3, none⟩ = false := HOwn.out.frozenAt _
            have cL6 := Boxed.cell HBu6.out
            have fL6 := Boxed.frozen HBu6.out
            have hnn1 : (n : Int) < (n : Int) + 1 := by omega
            clear hown hgrow hat h6B HPut
            refine hK.out _ _ ?_ (fun hHeld => ?_)
            · (try dsimp only)
              exact S4.of HS6.out HS2.out
            clear hK K
            (try simp only [Act.put])
            (try simp only [List.setIfInBounds_toArray])
            (try simp only [List.set_cons_succ])
            (try simp only [List.set_cons_zero])
            refine wpAnyH_take (i := 6) (v := ?_) rfl (by kernel_rfl) (by kernel_rfl) (by kernel_rfl) (fun _ _ _ h => h) (Or.inl ⟨by rfl, ?_⟩) (by assumption) ?_
            rotate_left
            · intro w' hSw
              (try dsimp only at hSw)
              go_simp
              (try with_reducible rfl)
            (try simp only [Act.put])
            (try simp only [List.setIfInBounds_toArray])
            (try simp only [List.set_cons_succ])
            (try simp only [List.set_cons_zero])
            refine wpAnyH_ready (rs := [7, 8]) (by kernel_rfl) (by simp) ?_
            refine AllReadyH.cons rfl (fun K hK => ?_) (AllReadyH.cons rfl (fun K hK => ?_) AllReadyH.nil)
            · skip
              go_simp
              refine hK.out _ _ ?_ (fun hHeld => ?_)
              · (try dsimp only)
                exact S4.of ((heap_put4 w6 _ _ _ _ hBg).trans HS6.out) HS2.out
              clear hK K
              (try simp only [Act.put])
              (try simp only [List.setIfInBounds_toArray])
              (try simp only [List.set_cons_succ])
              (try simp only [List.set_cons_zero])
              refine wpAnyH_ready (rs := [8]) (by kernel_rfl) (by simp) ?_
              refine AllReadyH.cons rfl (fun K hK => ?_) AllReadyH.nil
              go_simp
              refine hK.out _ _ ?_ (fun hHeld => ?_)
              · (try dsimp only)
                exact S4.of ((Below.heap_setCell _ ⟨w1.heap.size, 0, none⟩ _ Bx hBl).trans ((heap_put4 w6 _ _ _ _ hBg).trans HS6.out)) HS2.out
              clear hK K
              (try simp only [Act.put])
              (try simp only [List.setIfInBounds_toArray])
              (try simp only [List.set_cons_succ])
              (try simp only [List.set_cons_zero])
              refine wpAnyH_done (by kernel_rfl) ?_ _
              exact HX.out (((((w6.setCell ⟨g, n * 4, none⟩ (.int .i64 zk)).setCell ⟨g, n * 4 + 1, none⟩ (.slice zna znn znc)).setCell ⟨g, n * 4 + 2, none⟩ (.slice zra zrn zrc)).setCell ⟨g, n * 4 + 3, none⟩ (.slice zka zkn zkc)).setCell ⟨w1.heap.size, 0, none⟩ (.slice (some ⟨g, 0, none⟩) (n + 1) cap)) (Boxed.set _ ((heap_put4 w6 _ _ _ _ hlg).trans HBu6.out)) ((ownsRow_far (row_put4 _ _ _ _ HLx.out HOwn.out) hgl _)) (fun b h1 h2 => (Below.heap_setCell _ ⟨w1.heap.size, 0, none⟩ _ b h2).trans (heap_put4 w6 _ _ _ _ h1)) (by simp) rfl rfl rfl
            · skip
              go_simp
              refine hK.out _ _ ?_ (fun hHeld => ?_)
              · (try dsimp only)
                exact S4.of ((Below.heap_setCell _ ⟨w1.heap.size, 0, none⟩ _ Bx hBl).trans HS6.out) HS2.out
              clear hK K
              (try simp only [Act.put])
              (try simp only [List.setIfInBounds_toArray])
              (try simp only [List.set_cons_succ])
              (try simp only [List.set_cons_zero])
              have k0 : (w6.setCell ⟨w1.heap.size, 0, none⟩ (.slice (some ⟨g, 0, none⟩) (n + 1) cap)).cell? ⟨g, n * 4, none⟩ = some (.int .i64 0) := (World.cell?_of_block (w := w6) (Below.heap_setCell _ ⟨w1.heap.size, 0, none⟩ _ g hgl)).trans d0
              have k1 : (w6.setCell ⟨w1.heap.size, 0, none⟩ (.slice (some ⟨g, 0, none⟩) (n + 1) cap)).cell? ⟨g, n * 4 + 1, none⟩ = some (.slice none 0 0) := (World.cell?_of_block (w := w6) (Below.heap_setCell _ ⟨w1.heap.size, 0, none⟩ _ g hgl)).trans d1
              have k2 : (w6.setCell ⟨w1.heap.size, 0, none⟩ (.slice (some ⟨g, 0, none⟩) (n + 1) cap)).cell? ⟨g, n * 4 + 2, none⟩ = some (.slice none 0 0) := (World.cell?_of_block (w := w6) (Below.heap_setCell _ ⟨w1.heap.size, 0, none⟩ _ g hgl)).trans d2
              have k3 : (w6.setCell ⟨w1.heap.size, 0, none⟩ (.slice (some ⟨g, 0, none⟩) (n + 1) cap)).cell? ⟨g, n * 4 + 3, none⟩ = some (.slice none 0 0) := (World.cell?_of_block (w := w6) (Below.heap_setCell _ ⟨w1.heap.size, 0, none⟩ _ g hgl)).trans d3
              refine wpAnyH_ready (rs := [7]) (by kernel_rfl) (by simp) ?_
              refine AllReadyH.cons rfl (fun K hK => ?_) AllReadyH.nil
              go_simp
              refine hK.out _ _ ?_ (fun hHeld => ?_)
              · (try dsimp only)
                exact S4.of ((heap_put4 _ _ _ _ _ hBg).trans ((Below.heap_setCell _ ⟨w1.heap.size, 0, none⟩ _ Bx hBl).trans HS6.out)) HS2.out
              clear hK K
              (try simp only [Act.put])
              (try simp only [List.setIfInBounds_toArray])
              (try simp only [List.set_cons_succ])
              (try simp only [List.set_cons_zero])
              refine wpAnyH_done (by kernel_rfl) ?_ _
              exact HX.out (((((w6.setCell ⟨w1.heap.size, 0, none⟩ (.slice (some ⟨g, 0, none⟩) (n + 1) cap)).setCell ⟨g, n * 4, none⟩ (.int .i64 zk)).setCell ⟨g, n * 4 + 1, none⟩ (.slice zna znn znc)).setCell ⟨g, n * 4 + 2, none⟩ (.slice zra zrn zrc)).setCell ⟨g, n * 4 + 3, none⟩ (.slice zka zkn zkc)) ((heap_put4 _ _ _ _ _ hlg).trans (Boxed.set _ HBu6.out)) (row_put4 _ _ _ _ HLx.out (ownsRow_far HOwn.out hgl _)) (fun b h1 h2 => (heap_put4 _ _ _ _ _ h1).trans (Below.heap_setCell _ ⟨w1.heap.size, 0, none⟩ _ b h2)) (by simp) rfl rfl rfl
        · skip
          obtain ⟨wzx3, hWz⟩ : ∃ W, W = V0.alloc (.cells #[.int .i64 0, .slice none 0 0, .slice none 0 0, .slice none 0 0] 25) := ⟨_, rfl⟩
          have HWwzx3 : Hid (wzx3 = V0.alloc (.cells #[.int .i64 0, .slice none 0 0, .slice none 0 0, .slice none 0 0] 25)) := hWz
          have hbz : Below V0.heap.size V0 wzx3 := by rw [hWz]; exact (Below.refl _ _).alloc (Nat.le_refl _) _
          have HBwzx3 : Hid (Below w2.heap.size w2 wzx3) := HBV0.out.trans (hbz.mono hsV0)
          have hswzx3 : w2.heap.size ≤ wzx3.heap.size := HBwzx3.out.size
          have HZwzx3 : Hid (BoxC wzx3 V0.heap.size (.int .i64 0) (.slice none 0 0) (.slice none 0 0) (.slice none 0 0)) := by unfold Hid; rw [hWz]; exact BoxC.new V0 _ _ _ _
          clear hWz hbz
          go_simp
          rw [← HWwzx3.out]
          refine hK.out _ _ ?_ (fun hHeld => ?_)
          · (try dsimp only)
            exact S4.of (HBwzx3.out.block _ hBx2) HS2.out
          clear hK K
          (try simp only [Act.put])
          (try simp only [List.setIfInBounds_toArray])
          (try simp only [List.set_cons_succ])
          (try simp only [List.set_cons_zero])
          refine wpAnyH_ready (rs := [2]) (by kernel_rfl) (by simp) ?_
          refine AllReadyH.cons rfl (fun K hK => ?_) AllReadyH.nil
          · skip
            go_simp
            refine (clP_any dx _ cx wzx3 lo hi (HRx2.out.below HBwzx3.out hhi2) (by omega) (by omega)).mono ?_
            rintro e w5x4 ⟨zv, L, rfl, hO, hb5⟩
            obtain ⟨zna, znn, znc, zra, zrn, zrc, zka, zkn, zkc, rfl⟩ := hO.ow.agg
            obtain ⟨zk, hzk⟩ : ∃ zk, zk = cx.kind := ⟨_, rfl⟩
            rw [← hzk] at hO ⊢
            have HBw5x4 : Hid (Below w2.heap.size w2 w5x4) := HBwzx3.out.trans (hb5.mono hswzx3)
            have HOw5x4 : Hid (OwnC w2.heap.size w5x4 209 (.agg #[.int .i64 zk, .slice zna znn znc, .slice zra zrn zrc, .slice zka zkn zkc]) cx L) := (hO.at (by omega)).mono hswzx3
            have hsw5x4 : w2.heap.size ≤ w5x4.heap.size := HBw5x4.out.size
            have HZw5x4 : Hid (BoxC w5x4 V0.heap.size (.int .i64 0) (.slice none 0 0) (.slice none 0 0) (.slice none 0 0)) := HZwzx3.out.below hb5 HZwzx3.out.lt
            clear hO hb5 hzk
            try dsimp only
            refine hK.out _ _ ?_ (fun hHeld => ?_)
            · (try dsimp only)
              exact S4.of (HBw5x4.out.block _ hBx2) HS2.out
            clear hK K
            (try simp only [Act.put])
            (try simp only [List.setIfInBounds_toArray])
            (try simp only [List.set_cons_succ])
            (try simp only [List.set_cons_zero])
            have HRowc : Hid (w5x4.ownsRow (w1.heap.size + 1 + 1 + 1 + 1) 25 4 (.slice ua n ucap) n xs) := by have := (HA2.out.below HBw5x4.out).row.row; rw [← HNn.out] at this; exact this
            have HBuc : Hid (Boxed w5x4 w1.heap.size 23 (.slice ua n ucap)) := boxed_below HBu2.out HBw5x4.out HBu2.out.lt
            refine wpAnyH_ready (rs := [5]) (by kernel_rfl) (by simp) ?_
            refine AllReadyH.cons rfl (fun K hK => ?_) AllReadyH.nil
            refine step_append_lies _ rfl (.tmp 18) (.tmp 22) 23 rfl (w1.heap.size + 1 + 1 + 1 + 1) 25 i0 (.agg #[.int .i64 0, .slice none 0 0, .slice none 0 0, .slice none 0 0]) 4 80 Try.underlying23 hi0 hz0 hz1 hz2 rfl (by decide) (.slice ua n ucap) n xs (by simp [Act.eval]) HRowc.out ⟨V0.heap.size, 0, none⟩ 1 1 [.int .i64 0, .slice none 0 0, .slice none 0 0, .slice none 0 0] (by simp [Act.eval]) rfl (World.news_of_block HZw5x4.out) (one4 _ _ _ _ _ _ _ _ _ _) (by decide) (by unfold maxLen; omega) (by omega) (by omega) _ rfl ?_
            intro g cap w6 hown hgrow hat hlt6
            have HPut := hown
            have h6B : w6.heap[Bx]? = w5x4.heap[Bx]? := hgrow.block Bx (by omega) (fun e => HBo.out e.symm)
            have HS6 : Hid (w6.heap[Bx]? = w2.heap[Bx]?) := h6B.trans (HBw5x4.out.block Bx hBx2)
            have hgB : g ≠ Bx := by
              rcases hat with e | e
              · intro e2; subst e2; exact HBo.out e
              · omega
            have hg1 : (w1.heap.size + 1 + 1 + 1 + 1) ≤ g := by
              rcases hat with e | e
              · exact (HRowc.out.lt g e).1
              · omega
            have hgl : g ≠ w1.heap.size := by omega
            have hlg : w1.heap.size ≠ g := fun e => hgl e.symm
            have hBg : Bx ≠ g := fun e => hgB e.symm
            have hBl : Bx ≠ w1.heap.size := by omega
            have HBu6 : Hid (Boxed w6 w1.heap.size 23 (.slice ua n ucap)) := HBuc.out.kept hgrow (fun e => by have := (HRowc.out.lt _ e.symm).1; omega)
            have HOwn : Hid (w6.ownsRow (w1.heap.size + 1 + 1 + 1 + 1) 25 4 (.slice (some ⟨g, 0, none⟩) (n + 1) cap) (n + 1) (xs ++ [.int .i64 0, .slice none 0 0, .slice none 0 0, .slice none 0 0])) := hown
            have HGrow : Hid (w5x4.grownBy w6 (Value.slice ua n ucap).ownBlock) := hgrow
            have HAt : Hid ((Value.slice ua n ucap).ownBlock = some g ∨ g = w5x4.heap.size) := hat
            have HLx : Hid (xs.length = n * 4) := HRowc.out.1
            have HX : Hid (∀ F : World, Boxed F w1.heap.size 23 (.slice (some ⟨g, 0, none⟩) (n + 1) cap) → F.ownsRow (w1.heap.size + 1 + 1 + 1 + 1) 25 4 (.slice (some ⟨g, 0, none⟩) (n + 1) cap) (n + 1) (xs ++ [.int .i64 zk, .slice zna znn znc, .slice zra zrn zrc, .slice zka zkn zkc]) → (∀ b, b ≠ g → b ≠ w1.heap.size → F.heap[b]? = w6.heap[b]?) → F.heap.size = w6.heap.size → F.os = w6.os → F.tape = w6.tape → F.output = w6.output → KeepsFrom W0.heap.size W F ∧ KpL w.heap.size (w1.heap.size + 1 + 1 + 1 + 1) w1.heap.size W F ∧ InvL w.heap.size (w1.heap.size + 1 + 1 + 1 + 1) w1.heap.size w (pre ++ [(⟨deep, .agg #[.int .i64 xk, .slice xna xnn xnc, .slice xra xrn xrc, .slice xka xkn xkc], cx, dx, rd, bk⟩ : ItemL lo hi w)]) F) := fun F f1 f2 f3 f4 f5 f6 f7 => by
              obtain ⟨r1, r2, r3⟩ := InvL.more (x := (⟨deep, .agg #[.int .i64 xk, .slice xna xnn xnc, .slice xra xrn xrc, .slice xka xkn xkc], cx, dx, rd, bk⟩ : ItemL lo hi w)) (by omega) (by omega) HBu2.out HA2.out HBel2.out (by omega) rfl HAm.out.symm HBw5x4.out HOw5x4.out HNn.out HOwn.out HGrow.out HAt.out hlt6 f1 f2 f3 f4 f5 f6 f7
              exact ⟨((keepsOthers_below HB2.out).trans r1).from _, (KpL.of_below HB2.out (by omega) (by omega)).trans r2, r3⟩
            have d0 : w6.cell? ⟨g, n * 4, none⟩ = some (.int .i64 0) := by rw [HOwn.out.cellAt (n * 4) (by omega), List.getElem?_append_right (by have := HLx.out; omega), HLx.out, Nat.sub_self]; rfl
            have d1 : w6.cell? ⟨g, n * 4 + 1, none⟩ = some (.slice none 0 0) := by rw [HOwn.out.cellAt (n * 4 + 1) (by omega), List.getElem?_append_right (by have := HLx.out; omega), HLx.out, Nat.add_sub_cancel_left]; rfl
            have d2 : w6.cell? ⟨g, n * 4 + 2, none⟩ = some (.slice none 0 0) := by rw [HOwn.out.cellAt (n * 4 + 2) (by omega), List.getElem?_append_right (by have := HLx.out; omega), HLx.out, Nat.add_sub_cancel_left]; rfl
            have d3 : w6.cell? ⟨g, n * 4 + 3, none⟩ = some (.slice none 0 0) := by rw [HOwn.out.cellAt (n * 4 + 3) (by omega), List.getElem?_append_right (by have := HLx.out; omega), HLx.out, Nat.add_sub_cancel_left]; rfl
            have e0 : w6.frozen? ⟨g, n * 4, none⟩ = false := HOwn.out.frozenAt _
            have e1 : w6.frozen? ⟨g, n * 4 + 1, none⟩ = false := HOwn.out.frozenAt _
            have e2 : w6.frozen? ⟨g, n * 4 + 2, none⟩ = false := HOwn.out.frozenAt _
            have e3 : w6.frozen? ⟨g, n * 4 + 3, none⟩ = false := HOwn.out.frozenAt _
            have cL6 := Boxed.cell HBu6.out
            have fL6 := Boxed.frozen HBu6.out
            have hnn1 : (n : Int) < (n : Int) + 1 := by omega
            clear hown hgrow hat h6B HPut
            refine hK.out _ _ ?_ (fun hHeld => ?_)
            · (try dsimp only)
              exact S4.of HS6.out HS2.out
            clear hK K
            (try simp only [Act.put])
            (try simp only [List.setIfInBounds_toArray])
            (try simp only [List.set_cons_succ])
            (try simp only [List.set_cons_zero])
            refine wpAnyH_take (i := 6) (v := ?_) rfl (by kernel_rfl) (by kernel_rfl) (by kernel_rfl) (fun _ _ _ h => h) (Or.inl ⟨by rfl, ?_⟩) (by assumption) ?_
            rotate_left
            · intro w' hSw
              (try dsimp only at hSw)
              go_simp
              (try with_reducible rfl)
            (try simp only [Act.put])
            (try simp only [List.setIfInBounds_toArray])
            (try simp only [List.set_cons_succ])
            (try simp only [List.set_cons_zero])
            refine wpAnyH_ready (rs := [7, 8]) (by kernel_rfl) (by simp) ?_
            refine AllReadyH.cons rfl (fun K hK => ?_) (AllReadyH.cons rfl (fun K hK => ?_) AllReadyH.nil)
            · skip
              go_simp
              refine hK.out _ _ ?_ (fun hHeld => ?_)
              · (try dsimp only)
                exact S4.of ((heap_put4 w6 _ _ _ _ hBg).trans HS6.out) HS2.out
              clear hK K
              (try simp only [Act.put])
              (try simp only [List.setIfInBounds_toArray])
              (try simp only [List.set_cons_succ])
              (try simp only [List.set_cons_zero])
              refine wpAnyH_ready (rs := [8]) (by kernel_rfl) (by simp) ?_
              refine AllReadyH.cons rfl (fun K hK => ?_) AllReadyH.nil
              go_simp
              refine hK.out _ _ ?_ (fun hHeld => ?_)
              · (try dsimp only)
                exact S4.of ((Below.heap_setCell _ ⟨w1.heap.size, 0, none⟩ _ Bx hBl).trans ((heap_put4 w6 _ _ _ _ hBg).trans HS6.out)) HS2.out
              clear hK K
              (try simp only [Act.put])
              (try simp only [List.setIfInBounds_toArray])
              (try simp only [List.set_cons_succ])
              (try simp only [List.set_cons_zero])
              refine wpAnyH_done (by kernel_rfl) ?_ _
              exact HX.out (((((w6.setCell ⟨g, n * 4, none⟩ (.int .i64 zk)).setCell ⟨g, n * 4 + 1, none⟩ (.slice zna znn znc)).setCell ⟨g, n * 4 + 2, none⟩ (.slice zra zrn zrc)).setCell ⟨g, n * 4 + 3, none⟩ (.slice zka zkn zkc)).setCell ⟨w1.heap.size, 0, none⟩ (.slice (some ⟨g, 0, none⟩) (n + 1) cap)) (Boxed.set _ ((heap_put4 w6 _ _ _ _ hlg).trans HBu6.out)) ((ownsRow_far (row_put4 _ _ _ _ HLx.out HOwn.out) hgl _)) (fun b h1 h2 => (Below.heap_setCell _ ⟨w1.heap.size, 0, none⟩ _ b h2).trans (heap_put4 w6 _ _ _ _ h1)) (by simp) rfl rfl rfl
            · skip
              go_simp
              refine hK.out _ _ ?_ (fun hHeld => ?_)
              · (try dsimp only)
                exact S4.of ((Below.heap_setCell _ ⟨w1.heap.size, 0, none⟩ _ Bx hBl).trans HS6.out) HS2.out
              clear hK K
              (try simp only [Act.put])
              (try simp only [List.setIfInBounds_toArray])
              (try simp only [List.set_cons_succ])
              (try simp only [List.set_cons_zero])
              have k0 : (w6.setCell ⟨w1.heap.size, 0, none⟩ (.slice (some ⟨g, 0, none⟩) (n + 1) cap)).cell? ⟨g, n * 4, none⟩ = some (.int .i64 0) := (World.cell?_of_block (w := w6) (Below.heap_setCell _ ⟨w1.heap.size, 0, none⟩ _ g hgl)).trans d0
              have k1 : (w6.setCell ⟨w1.heap.size, 0, none⟩ (.slice (some ⟨g, 0, none⟩) (n + 1) cap)).cell? ⟨g, n * 4 + 1, none⟩ = some (.slice none 0 0) := (World.cell?_of_block (w := w6) (Below.heap_setCell _ ⟨w1.heap.size, 0, none⟩ _ g hgl)).trans d1
              have k2 : (w6.setCell ⟨w1.heap.size, 0, none⟩ (.slice (some ⟨g, 0, none⟩) (n + 1) cap)).cell? ⟨g, n * 4 + 2, none⟩ = some (.slice none 0 0) := (World.cell?_of_block (w := w6) (Below.heap_setCell _ ⟨w1.heap.size, 0, none⟩ _ g hgl)).trans d2
              have k3 : (w6.setCell ⟨w1.heap.size, 0, none⟩ (.slice (some ⟨g, 0, none⟩) (n + 1) cap)).cell? ⟨g, n * 4 + 3, none⟩ = some (.slice none 0 0) := (World.cell?_of_block (w := w6) (Below.heap_setCell _ ⟨w1.heap.size, 0, none⟩ _ g hgl)).trans d3
              refine wpAnyH_ready (rs := [7]) (by kernel_rfl) (by simp) ?_
              refine AllReadyH.cons rfl (fun K hK => ?_) AllReadyH.nil
              go_simp
              refine hK.out _ _ ?_ (fun hHeld => ?_)
              · (try dsimp only)
                exact S4.of ((heap_put4 _ _ _ _ _ hBg).trans ((Below.heap_setCell _ ⟨w1.heap.size, 0, none⟩ _ Bx hBl).trans HS6.out)) HS2.out
              clear hK K
              (try simp only [Act.put])
              (try simp only [List.setIfInBounds_toArray])
              (try simp only [List.set_cons_succ])
              (try simp only [List.set_cons_zero])
              refine wpAnyH_done (by kernel_rfl) ?_ _
              exact HX.out (((((w6.setCell ⟨w1.heap.size, 0, none⟩ (.slice (some ⟨g, 0, none⟩) (n + 1) cap)).setCell ⟨g, n * 4, none⟩ (.int .i64 zk)).setCell ⟨g, n * 4 + 1, none⟩ (.slice zna znn znc)).setCell ⟨g, n * 4 + 2, none⟩ (.slice zra zrn zrc)).setCell ⟨g, n * 4 + 3, none⟩ (.slice zka zkn zkc)) ((heap_put4 _ _ _ _ _ hlg).trans (Boxed.set _ HBu6.out)) (row_put4 _ _ _ _ HLx.out (ownsRow_far HOwn.out hgl _)) (fun b h1 h2 => (heap_put4 _ _ _ _ _ h1).trans (Below.heap_setCell _ ⟨w1.heap.size, 0, none⟩ _ b h2)) (by simp) rfl rfl rfl
      · skip
        go_simp
        refine (clP_any dx _ cx V0 lo hi (HRx2.out.below HBV0.out hhi2) (by omega) (by omega)).mono ?_
        rintro e w5x5 ⟨zv, L, rfl, hO, hb5⟩
        obtain ⟨zna, znn, znc, zra, zrn, zrc, zka, zkn, zkc, rfl⟩ := hO.ow.agg
        obtain ⟨zk, hzk⟩ : ∃ zk, zk = cx.kind := ⟨_, rfl⟩
        rw [← hzk] at hO ⊢
        have HBw5x5 : Hid (Below w2.heap.size w2 w5x5) := HBV0.out.trans (hb5.mono hsV0)
        have HOw5x5 : Hid (OwnC w2.heap.size w5x5 209 (.agg #[.int .i64 zk, .slice zna znn znc, .slice zra zrn zrc, .slice zka zkn zkc]) cx L) := (hO.at (by omega)).mono hsV0
        have hsw5x5 : w2.heap.size ≤ w5x5.heap.size := HBw5x5.out.size
        clear hO hb5 hzk
        try dsimp only
        refine hK.out _ _ ?_ (fun hHeld => ?_)
        · (try dsimp only)
          exact S4.of (HBw5x5.out.block _ hBx2) HS2.out
        clear hK K
        (try simp only [Act.put])
        (try simp only [List.setIfInBounds_toArray])
        (try simp only [List.set_cons_succ])
        (try simp only [List.set_cons_zero])
        refine wpAnyH_ready (rs := [0, 4]) (by kernel_rfl) (by simp) ?_
        refine AllReadyH.cons rfl (fun K hK => ?_) (AllReadyH.cons rfl (fun K hK => ?_) AllReadyH.nil)
        · skip
          have cLc := Boxed.cell (boxed_below HBu2.out HBw5x5.out HBu2.out.lt)
          go_simp
          clear cLc
          refine hK.out _ _ ?_ (fun hHeld => ?_)
          · (try dsimp only)
            exact S4.of (HBw5x5.out.block _ hBx2) HS2.out
          clear hK K
          (try simp only [Act.put])
          (try simp only [List.setIfInBounds_toArray])
          (try simp only [List.set_cons_succ])
          (try simp only [List.set_cons_zero])
          refine wpAnyH_take (i := 3) (v := ?_) rfl (by kernel_rfl) (by kernel_rfl) (by kernel_rfl) (fun _ _ _ h => h) (Or.inl ⟨by rfl, ?_⟩) (by assumption) ?_
          rotate_left
          · intro w' hSw
            (try dsimp only at hSw)
            go_simp
            (try with_reducible rfl)
          (try simp only [Act.put])
          (try simp only [List.setIfInBounds_toArray])
          (try simp only [List.set_cons_succ])
          (try simp only [List.set_cons_zero])
          refine wpAnyH_ready (rs := [4]) (by kernel_rfl) (by simp) ?_
          refine AllReadyH.cons rfl (fun K hK => ?_) AllReadyH.nil
          · skip
            obtain ⟨wzx6, hWz⟩ : ∃ W, W = w5x5.alloc (.cells #[.int .i64 0, .slice none 0 0, .slice none 0 0, .slice none 0 0] 25) := ⟨_, rfl⟩
            have HWwzx6 : Hid (wzx6 = w5x5.alloc (.cells #[.int .i64 0, .slice none 0 0, .slice none 0 0, .slice none 0 0] 25)) := hWz
            have hbz : Below w5x5.heap.size w5x5 wzx6 := by rw [hWz]; exact (Below.refl _ _).alloc (Nat.le_refl _) _
            have HBwzx6 : Hid (Below w2.heap.size w2 wzx6) := HBw5x5.out.trans (hbz.mono hsw5x5)
            have hswzx6 : w2.heap.size ≤ wzx6.heap.size := HBwzx6.out.size
            have HZwzx6 : Hid (BoxC wzx6 w5x5.heap.size (.int .i64 0) (.slice none 0 0) (.slice none 0 0) (.slice none 0 0)) := by unfold Hid; rw [hWz]; exact BoxC.new w5x5 _ _ _ _
            have HOwzx6 : Hid (OwnC w2.heap.size wzx6 209 (.agg #[.int .i64 zk, .slice zna znn znc, .slice zra zrn zrc, .slice zka zkn zkc]) cx L) := HOw5x5.out.below hbz
            clear hWz hbz
            go_simp
            rw [← HWwzx6.out]
            refine hK.out _ _ ?_ (fun hHeld => ?_)
            · (try dsimp only)
              exact S4.of (HBwzx6.out.block _ hBx2) HS2.out
            clear hK K
            (try simp only [Act.put])
            (try simp only [List.setIfInBounds_toArray])
            (try simp only [List.set_cons_succ])
            (try simp only [List.set_cons_zero])
            have HRowc : Hid (wzx6.ownsRow (w1.heap.size + 1 + 1 + 1 + 1) 25 4 (.slice ua n ucap) n xs) := by have := (HA2.out.below HBwzx6.out).row.row; rw [← HNn.out] at this; exact this
            have HBuc : Hid (Boxed wzx6 w1.heap.size 23 (.slice ua n ucap)) := boxed_below HBu2.out HBwzx6.out HBu2.out.lt
            refine wpAnyH_ready (rs := [5]) (by kernel_rfl) (by simp) ?_
            refine AllReadyH.cons rfl (fun K hK => ?_) AllReadyH.nil
            refine step_append_lies _ rfl (.tmp 18) (.tmp 22) 23 rfl (w1.heap.size + 1 + 1 + 1 + 1) 25 i0 (.agg #[.int .i64 0, .slice none 0 0, .slice none 0 0, .slice none 0 0]) 4 80 Try.underlying23 hi0 hz0 hz1 hz2 rfl (by decide) (.slice ua n ucap) n xs (by simp [Act.eval]) HRowc.out ⟨w5x5.heap.size, 0, none⟩ 1 1 [.int .i64 0, .slice none 0 0, .slice none 0 0, .slice none 0 0] (by simp [Act.eval]) rfl (World.news_of_block HZwzx6.out) (one4 _ _ _ _ _ _ _ _ _ _) (by decide) (by unfold maxLen; omega) (by omega) (by omega) _ rfl ?_
            intro g cap w6 hown hgrow hat hlt6
            have HPut := hown
            have h6B : w6.heap[Bx]? = wzx6.heap[Bx]? := hgrow.block Bx (by omega) (fun e => HBo.out e.symm)
            have HS6 : Hid (w6.heap[Bx]? = w2.heap[Bx]?) := h6B.trans (HBwzx6.out.block Bx hBx2)
            have hgB : g ≠ Bx := by
              rcases hat with e | e
              · intro e2; subst e2; exact HBo.out e
              · omega
            have hg1 : (w1.heap.size + 1 + 1 + 1 + 1) ≤ g := by
              rcases hat with e | e
              · exact (HRowc.out.lt g e).1
              · omega
            have hgl : g ≠ w1.heap.size := by omega
            have hlg : w1.heap.size ≠ g := fun e => hgl e.symm
            have hBg : Bx ≠ g := fun e => hgB e.symm
            have hBl : Bx ≠ w1.heap.size := by omega
            have HBu6 : Hid (Boxed w6 w1.heap.size 23 (.slice ua n ucap)) := HBuc.out.kept hgrow (fun e => by have := (HRowc.out.lt _ e.symm).1; omega)
            have HOwn : Hid (w6.ownsRow (w1.heap.size + 1 + 1 + 1 + 1) 25 4 (.slice (some ⟨g, 0, none⟩) (n + 1) cap) (n + 1) (xs ++ [.int .i64 0, .slice none 0 0, .slice none 0 0, .slice none 0 0])) := hown
            have HGrow : Hid (wzx6.grownBy w6 (Value.slice ua n ucap).ownBlock) := hgrow
            have HAt : Hid ((Value.slice ua n ucap).ownBlock = some g ∨ g = wzx6.heap.size) := hat
            have HLx : Hid (xs.length = n * 4) := HRowc.out.1
            have HX : Hid (∀ F : World, Boxed F w1.heap.size 23 (.slice (some ⟨g, 0, none⟩) (n + 1) cap) → F.ownsRow (w1.heap.size + 1 + 1 + 1 + 1) 25 4 (.slice (some ⟨g, 0, none⟩) (n + 1) cap) (n + 1) (xs ++ [.int .i64 zk, .slice zna znn znc, .slice zra zrn zrc, .slice zka zkn zkc]) → (∀ b, b ≠ g → b ≠ w1.heap.size → F.heap[b]? = w6.heap[b]?) → F.heap.size = w6.heap.size → F.os = w6.os → F.tape = w6.tape → F.output = w6.output → KeepsFrom W0.heap.size W F ∧ KpL w.heap.size (w1.heap.size + 1 + 1 + 1 + 1) w1.heap.size W F ∧ InvL w.heap.size (w1.heap.size + 1 + 1 + 1 + 1) w1.heap.size w (pre ++ [(⟨deep, .agg #[.int .i64 xk, .slice xna xnn xnc, .slice xra xrn xrc, .slice xka xkn xkc], cx, dx, rd, bk⟩ : ItemL lo hi w)]) F) := fun F f1 f2 f3 f4 f5 f6 f7 => by
              obtain ⟨r1, r2, r3⟩ := InvL.more (x := (⟨deep, .agg #[.int .i64 xk, .slice xna xnn xnc, .slice xra xrn xrc, .slice xka xkn xkc], cx, dx, rd, bk⟩ : ItemL lo hi w)) (by omega) (by omega) HBu2.out HA2.out HBel2.out (by omega) rfl HAm.out.symm HBwzx6.out HOwzx6.out HNn.out HOwn.out HGrow.out HAt.out hlt6 f1 f2 f3 f4 f5 f6 f7
              exact ⟨((keepsOthers_below HB2.out).trans r1).from _, (KpL.of_below HB2.out (by omega) (by omega)).trans r2, r3⟩
            have d0 : w6.cell? ⟨g, n * 4, none⟩ = some (.int .i64 0) := by rw [HOwn.out.cellAt (n * 4) (by omega), List.getElem?_append_right (by have := HLx.out; omega), HLx.out, Nat.sub_self]; rfl
            have d1 : w6.cell? ⟨g, n * 4 + 1, none⟩ = some (.slice none 0 0) := by rw [HOwn.out.cellAt (n * 4 + 1) (by omega), List.getElem?_append_right (by have := HLx.out; omega), HLx.out, Nat.add_sub_cancel_left]; rfl
            have d2 : w6.cell? ⟨g, n * 4 + 2, none⟩ = some (.slice none 0 0) := by rw [HOwn.out.cellAt (n * 4 + 2) (by omega), List.getElem?_append_right (by have := HLx.out; omega), HLx.out, Nat.add_sub_cancel_left]; rfl
            have d3 : w6.cell? ⟨g, n * 4 + 3, none⟩ = some (.slice none 0 0) := by rw [HOwn.out.cellAt (n * 4 + 3) (by omega), List.getElem?_append_right (by have := HLx.out; omega), HLx.out, Nat.add_sub_cancel_left]; rfl
            have e0 : w6.frozen? ⟨g, n * 4, none⟩ = false := HOwn.out.frozenAt _
            have e1 : w6.frozen? ⟨g, n * 4 + 1, none⟩ = false := HOwn.out.frozenAt _
            have e2 : w6.frozen? ⟨g, n * 4 + 2, none⟩ = false := HOwn.out.frozenAt _
            have e3 : w6.frozen? ⟨g, n * 4 + 3, none⟩ = false := HOwn.out.frozenAt _
            have cL6 := Boxed.cell HBu6.out
            have fL6 := Boxed.frozen HBu6.out
            have hnn1 : (n : Int) < (n : Int) + 1 := by omega
            clear hown hgrow hat h6B HPut
            refine hK.out _ _ ?_ (fun hHeld => ?_)
            · (try dsimp only)
              exact S4.of HS6.out HS2.out
            clear hK K
            (try simp only [Act.put])
            (try simp only [List.setIfInBounds_toArray])
            (try simp only [List.set_cons_succ])
            (try simp only [List.set_cons_zero])
            refine wpAnyH_take (i := 6) (v := ?_) rfl (by kernel_rfl) (by kernel_rfl) (by kernel_rfl) (fun _ _ _ h => h) (Or.inl ⟨by rfl, ?_⟩) (by assumption) ?_
            rotate_left
            · intro w' hSw
              (try dsimp only at hSw)
              go_simp
              (try with_reducible rfl)
            (try simp only [Act.put])
            (try simp only [List.setIfInBounds_toArray])
            (try simp only [List.set_cons_succ])
            (try simp only [List.set_cons_zero])
            refine wpAnyH_ready (rs := [7, 8]) (by kernel_rfl) (by simp) ?_
            refine AllReadyH.cons rfl (fun K hK => ?_) (AllReadyH.cons rfl (fun K hK => ?_) AllReadyH.nil)
            · skip
              go_simp
              refine hK.out _ _ ?_ (fun hHeld => ?_)
              · (try dsimp only)
                exact S4.of ((heap_put4 w6 _ _ _ _ hBg).trans HS6.out) HS2.out
              clear hK K
              (try simp only [Act.put])
              (try simp only [List.setIfInBounds_toArray])
              (try simp only [List.set_cons_succ])
              (try simp only [List.set_cons_zero])
              refine wpAnyH_ready (rs := [8]) (by kernel_rfl) (by simp) ?_
              refine AllReadyH.cons rfl (fun K hK => ?_) AllReadyH.nil
              go_simp
              refine hK.out _ _ ?_ (fun hHeld => ?_)
              · (try dsimp only)
                exact S4.of ((Below.heap_setCell _ ⟨w1.heap.size, 0, none⟩ _ Bx hBl).trans ((heap_put4 w6 _ _ _ _ hBg).trans HS6.out)) HS2.out
              clear hK K
              (try simp only [Act.put])
              (try simp only [List.setIfInBounds_toArray])
              (try simp only [List.set_cons_succ])
              (try simp only [List.set_cons_zero])
              refine wpAnyH_done (by kernel_rfl) ?_ _
              exact HX.out (((((w6.setCell ⟨g, n * 4, none⟩ (.int .i64 zk)).setCell ⟨g, n * 4 + 1, none⟩ (.slice zna znn znc)).setCell ⟨g, n * 4 + 2, none⟩ (.slice zra zrn zrc)).setCell ⟨g, n * 4 + 3, none⟩ (.slice zka zkn zkc)).setCell ⟨w1.heap.size, 0, none⟩ (.slice (some ⟨g, 0, none⟩) (n + 1) cap)) (Boxed.set _ ((heap_put4 w6 _ _ _ _ hlg).trans HBu6.out)) ((ownsRow_far (row_put4 _ _ _ _ HLx.out HOwn.out) hgl _)) (fun b h1 h2 => (Below.heap_setCell _ ⟨w1.heap.size, 0, none⟩ _ b h2).trans (heap_put4 w6 _ _ _ _ h1)) (by simp) rfl rfl rfl
            · skip
              go_simp
              refine hK.out _ _ ?_ (fun hHeld => ?_)
              · (try dsimp only)
                exact S4.of ((Below.heap_setCell _ ⟨w1.heap.size, 0, none⟩ _ Bx hBl).trans HS6.out) HS2.out
              clear hK K
              (try simp only [Act.put])
              (try simp only [List.setIfInBounds_toArray])
              (try simp only [List.set_cons_succ])
              (try simp only [List.set_cons_zero])
              have k0 : (w6.setCell ⟨w1.heap.size, 0, none⟩ (.slice (some ⟨g, 0, none⟩) (n + 1) cap)).cell? ⟨g, n * 4, none⟩ = some (.int .i64 0) := (World.cell?_of_block (w := w6) (Below.heap_setCell _ ⟨w1.heap.size, 0, none⟩ _ g hgl)).trans d0
              have k1 : (w6.setCell ⟨w1.heap.size, 0, none⟩ (.slice (some ⟨g, 0, none⟩) (n + 1) cap)).cell? ⟨g, n * 4 + 1, none⟩ = some (.slice none 0 0) := (World.cell?_of_block (w := w6) (Below.heap_setCell _ ⟨w1.heap.size, 0, none⟩ _ g hgl)).trans d1
              have k2 : (w6.setCell ⟨w1.heap.size, 0, none⟩ (.slice (some ⟨g, 0, none⟩) (n + 1) cap)).cell? ⟨g, n * 4 + 2, none⟩ = some (.slice none 0 0) := (World.cell?_of_block (w := w6) (Below.heap_setCell _ ⟨w1.heap.size, 0, none⟩ _ g hgl)).trans d2
              have k3 : (w6.setCell ⟨w1.heap.size, 0, none⟩ (.slice (some ⟨g, 0, none⟩) (n + 1) cap)).cell? ⟨g, n * 4 + 3, none⟩ = some (.slice none 0 0) := (World.cell?_of_block (w := w6) (Below.heap_setCell _ ⟨w1.heap.size, 0, none⟩ _ g hgl)).trans d3
              refine wpAnyH_ready (rs := [7]) (by kernel_rfl) (by simp) ?_
              refine AllReadyH.cons rfl (fun K hK => ?_) AllReadyH.nil
              go_simp
              refine hK.out _ _ ?_ (fun hHeld => ?_)
              · (try dsimp only)
                exact S4.of ((heap_put4 _ _ _ _ _ hBg).trans ((Below.heap_setCell _ ⟨w1.heap.size, 0, none⟩ _ Bx hBl).trans HS6.out)) HS2.out
              clear hK K
              (try simp only [Act.put])
              (try simp only [List.setIfInBounds_toArray])
              (try simp only [List.set_cons_succ])
              (try simp only [List.set_cons_zero])
              refine wpAnyH_done (by kernel_rfl) ?_ _
              exact HX.out (((((w6.setCell ⟨w1.heap.size, 0, none⟩ (.slice (some ⟨g, 0, none⟩) (n + 1) cap)).setCell ⟨g, n * 4, none⟩ (.int .i64 zk)).setCell ⟨g, n * 4 + 1, none⟩ (.slice zna znn znc)).setCell ⟨g, n * 4 + 2, none⟩ (.slice zra zrn zrc)).setCell ⟨g, n * 4 + 3, none⟩ (.slice zka zkn zkc)) ((heap_put4 _ _ _ _ _ hlg).trans (Boxed.set _ HBu6.out)) (row_put4 _ _ _ _ HLx.out (ownsRow_far HOwn.out hgl _)) (fun b h1 h2 => (heap_put4 _ _ _ _ _ h1).trans (Below.heap_setCell _ ⟨w1.heap.size, 0, none⟩ _ b h2)) (by simp) rfl rfl rfl
        · skip
          obtain ⟨wzx7, hWz⟩ : ∃ W, W = w5x5.alloc (.cells #[.int .i64 0, .slice none 0 0, .slice none 0 0, .slice none 0 0] 25) := ⟨_, rfl⟩
          have HWwzx7 : Hid (wzx7 = w5x5.alloc (.cells #[.int .i64 0, .slice none 0 0, .slice none 0 0, .slice none 0 0] 25)) := hWz
          have hbz : Below w5x5.heap.size w5x5 wzx7 := by rw [hWz]; exact (Below.refl _ _).alloc (Nat.le_refl _) _
          have HBwzx7 : Hid (Below w2.heap.size w2 wzx7) := HBw5x5.out.trans (hbz.mono hsw5x5)
          have hswzx7 : w2.heap.size ≤ wzx7.heap.size := HBwzx7.out.size
          have HZwzx7 : Hid (BoxC wzx7 w5x5.heap.size (.int .i64 0) (.slice none 0 0) (.slice none 0 0) (.slice none 0 0)) := by unfold Hid; rw [hWz]; exact BoxC.new w5x5 _ _ _ _
          have HOwzx7 : Hid (OwnC w2.heap.size wzx7 209 (.agg #[.int .i64 zk, .slice zna znn znc, .slice zra zrn zrc, .slice zka zkn zkc]) cx L) := HOw5x5.out.below hbz
          clear hWz hbz
          go_simp
          rw [← HWwzx7.out]
          refine hK.out _ _ ?_ (fun hHeld => ?_)
          · (try dsimp only)
            exact S4.of (HBwzx7.out.block _ hBx2) HS2.out
          clear hK K
          (try simp only [Act.put])
          (try simp only [List.setIfInBounds_toArray])
          (try simp only [List.set_cons_succ])
          (try simp only [List.set_cons_zero])
          refine wpAnyH_ready (rs := [0]) (by kernel_rfl) (by simp) ?_
          refine AllReadyH.cons rfl (fun K hK => ?_) AllReadyH.nil
          · skip
            have cLc := Boxed.cell (boxed_below HBu2.out HBwzx7.out HBu2.out.lt)
            go_simp
            clear cLc
            refine hK.out _ _ ?_ (fun hHeld => ?_)
            · (try dsimp only)
              exact S4.of (HBwzx7.out.block _ hBx2) HS2.out
            clear hK K
            (try simp only [Act.put])
            (try simp only [List.setIfInBounds_toArray])
            (try simp only [List.set_cons_succ])
            (try simp only [List.set_cons_zero])
            refine wpAnyH_take (i := 3) (v := ?_) rfl (by kernel_rfl) (by kernel_rfl) (by kernel_rfl) (fun _ _ _ h => h) (Or.inl ⟨by rfl, ?_⟩) (by assumption) ?_
            rotate_left
            · intro w' hSw
              (try dsimp only at hSw)
              go_simp
              (try with_reducible rfl)
            (try simp only [Act.put])
            (try simp only [List.setIfInBounds_toArray])
            (try simp only [List.set_cons_succ])
            (try simp only [List.set_cons_zero])
            have HRowc : Hid (wzx7.ownsRow (w1.heap.size + 1 + 1 + 1 + 1) 25 4 (.slice ua n ucap) n xs) := by have := (HA2.out.below HBwzx7.out).row.row; rw [← HNn.out] at this; exact this
            have HBuc : Hid (Boxed wzx7 w1.heap.size 23 (.slice ua n ucap)) := boxed_below HBu2.out HBwzx7.out HBu2.out.lt
            refine wpAnyH_ready (rs := [5]) (by kernel_rfl) (by simp) ?_
            refine AllReadyH.cons rfl (fun K hK => ?_) AllReadyH.nil
            refine step_append_lies _ rfl (.tmp 18) (.tmp 22) 23 rfl (w1.heap.size + 1 + 1 + 1 + 1) 25 i0 (.agg #[.int .i64 0, .slice none 0 0, .slice none 0 0, .slice none 0 0]) 4 80 Try.underlying23 hi0 hz0 hz1 hz2 rfl (by decide) (.slice ua n ucap) n xs (by simp [Act.eval]) HRowc.out ⟨w5x5.heap.size, 0, none⟩ 1 1 [.int .i64 0, .slice none 0 0, .slice none 0 0, .slice none 0 0] (by simp [Act.eval]) rfl (World.news_of_block HZwzx7.out) (one4 _ _ _ _ _ _ _ _ _ _) (by decide) (by unfold maxLen; omega) (by omega) (by omega) _ rfl ?_
            intro g cap w6 hown hgrow hat hlt6
            have HPut := hown
            have h6B : w6.heap[Bx]? = wzx7.heap[Bx]? := hgrow.block Bx (by omega) (fun e => HBo.out e.symm)
            have HS6 : Hid (w6.heap[Bx]? = w2.heap[Bx]?) := h6B.trans (HBwzx7.out.block Bx hBx2)
            have hgB : g ≠ Bx := by
              rcases hat with e | e
              · intro e2; subst e2; exact HBo.out e
              · omega
            have hg1 : (w1.heap.size + 1 + 1 + 1 + 1) ≤ g := by
              rcases hat with e | e
              · exact (HRowc.out.lt g e).1
              · omega
            have hgl : g ≠ w1.heap.size := by omega
            have hlg : w1.heap.size ≠ g := fun e => hgl e.symm
            have hBg : Bx ≠ g := fun e => hgB e.symm
            have hBl : Bx ≠ w1.heap.size := by omega
            have HBu6 : Hid (Boxed w6 w1.heap.size 23 (.slice ua n ucap)) := HBuc.out.kept hgrow (fun e => by have := (HRowc.out.lt _ e.symm).1; omega)
            have HOwn : Hid (w6.ownsRow (w1.heap.size + 1 + 1 + 1 + 1) 25 4 (.slice (some ⟨g, 0, none⟩) (n + 1) cap) (n + 1) (xs ++ [.int .i64 0, .slice none 0 0, .slice none 0 0, .slice none 0 0])) := hown
            have HGrow : Hid (wzx7.grownBy w6 (Value.slice ua n ucap).ownBlock) := hgrow
            have HAt : Hid ((Value.slice ua n ucap).ownBlock = some g ∨ g = wzx7.heap.size) := hat
            have HLx : Hid (xs.length = n * 4) := HRowc.out.1
            have HX : Hid (∀ F : World, Boxed F w1.heap.size 23 (.slice (some ⟨g, 0, none⟩) (n + 1) cap) → F.ownsRow (w1.heap.size + 1 + 1 + 1 + 1) 25 4 (.slice (some ⟨g, 0, none⟩) (n + 1) cap) (n + 1) (xs ++ [.int .i64 zk, .slice zna znn znc, .slice zra zrn zrc, .slice zka zkn zkc]) → (∀ b, b ≠ g → b ≠ w1.heap.size → F.heap[b]? = w6.heap[b]?) → F.heap.size = w6.heap.size → F.os = w6.os → F.tape = w6.tape → F.output = w6.output → KeepsFrom W0.heap.size W F ∧ KpL w.heap.size (w1.heap.size + 1 + 1 + 1 + 1) w1.heap.size W F ∧ InvL w.heap.size (w1.heap.size + 1 + 1 + 1 + 1) w1.heap.size w (pre ++ [(⟨deep, .agg #[.int .i64 xk, .slice xna xnn xnc, .slice xra xrn xrc, .slice xka xkn xkc], cx, dx, rd, bk⟩ : ItemL lo hi w)]) F) := fun F f1 f2 f3 f4 f5 f6 f7 => by
              obtain ⟨r1, r2, r3⟩ := InvL.more (x := (⟨deep, .agg #[.int .i64 xk, .slice xna xnn xnc, .slice xra xrn xrc, .slice xka xkn xkc], cx, dx, rd, bk⟩ : ItemL lo hi w)) (by omega) (by omega) HBu2.out HA2.out HBel2.out (by omega) rfl HAm.out.symm HBwzx7.out HOwzx7.out HNn.out HOwn.out HGrow.out HAt.out hlt6 f1 f2 f3 f4 f5 f6 f7
              exact ⟨((keepsOthers_below HB2.out).trans r1).from _, (KpL.of_below HB2.out (by omega) (by omega)).trans r2, r3⟩
            have d0 : w6.cell? ⟨g, n * 4, none⟩ = some (.int .i64 0) := by rw [HOwn.out.cellAt (n * 4) (by omega), List.getElem?_append_right (by have := HLx.out; omega), HLx.out, Nat.sub_self]; rfl
            have d1 : w6.cell? ⟨g, n * 4 + 1, none⟩ = some (.slice none 0 0) := by rw [HOwn.out.cellAt (n * 4 + 1) (by omega), List.getElem?_append_right (by have := HLx.out; omega), HLx.out, Nat.add_sub_cancel_left]; rfl
            have d2 : w6.cell? ⟨g, n * 4 + 2, none⟩ = some (.slice none 0 0) := by rw [HOwn.out.cellAt (n * 4 + 2) (by omega), List.getElem?_append_right (by have := HLx.out; omega), HLx.out, Nat.add_sub_cancel_left]; rfl
            have d3 : w6.cell? ⟨g, n * 4 + 3, none⟩ = some (.slice none 0 0) := by rw [HOwn.out.cellAt (n * 4 + 3) (by omega), List.getElem?_append_right (by have := HLx.out; omega), HLx.out, Nat.add_sub_cancel_left]; rfl
            have e0 : w6.frozen? ⟨g, n * 4, none⟩ = false := HOwn.out.frozenAt _
            have e1 : w6.frozen? ⟨g, n * 4 + 1, none⟩ = false := HOwn.out.frozenAt _
            have e2 : w6.frozen? ⟨g, n * 4 + 2, none⟩ = false := HOwn.out.frozenAt _
            have e3 : w6.frozen? ⟨g, n * 4 + 3, none⟩ = false := HOwn.out.frozenAt _
            have cL6 := Boxed.cell HBu6.out
            have fL6 := Boxed.frozen HBu6.out
            have hnn1 : (n : Int) < (n : Int) + 1 := by omega
            clear hown hgrow hat h6B HPut
            refine hK.out _ _ ?_ (fun hHeld => ?_)
            · (try dsimp only)
              exact S4.of HS6.out HS2.out
            clear hK K
            (try simp only [Act.put])
            (try simp only [List.setIfInBounds_toArray])
            (try simp only [List.set_cons_succ])
            (try simp only [List.set_cons_zero])
            refine wpAnyH_take (i := 6) (v := ?_) rfl (by kernel_rfl) (by kernel_rfl) (by kernel_rfl) (fun _ _ _ h => h) (Or.inl ⟨by rfl, ?_⟩) (by assumption) ?_
            rotate_left
            · intro w' hSw
              (try dsimp only at hSw)
              go_simp
              (try with_reducible rfl)
            (try simp only [Act.put])
            (try simp only [List.setIfInBounds_toArray])
            (try simp only [List.set_cons_succ])
            (try simp only [List.set_cons_zero])
            refine wpAnyH_ready (rs := [7, 8]) (by kernel_rfl) (by simp) ?_
            refine AllReadyH.cons rfl (fun K hK => ?_) (AllReadyH.cons rfl (fun K hK => ?_) AllReadyH.nil)
            · skip
              go_simp
              refine hK.out _ _ ?_ (fun hHeld => ?_)
              · (try dsimp only)
                exact S4.of ((heap_put4 w6 _ _ _ _ hBg).trans HS6.out) HS2.out
              clear hK K
              (try simp only [Act.put])
              (try simp only [List.setIfInBounds_toArray])
              (try simp only [List.set_cons_succ])
              (try simp only [List.set_cons_zero])
              refine wpAnyH_ready (rs := [8]) (by kernel_rfl) (by simp) ?_
              refine AllReadyH.cons rfl (fun K hK => ?_) AllReadyH.nil
              go_simp
              refine hK.out _ _ ?_ (fun hHeld => ?_)
              · (try dsimp only)
                exact S4.of ((Below.heap_setCell _ ⟨w1.heap.size, 0, none⟩ _ Bx hBl).trans ((heap_put4 w6 _ _ _ _ hBg).trans HS6.out)) HS2.out
              clear hK K
              (try simp only [Act.put])
              (try simp only [List.setIfInBounds_toArray])
              (try simp only [List.set_cons_succ])
              (try simp only [List.set_cons_zero])
              refine wpAnyH_done (by kernel_rfl) ?_ _
              exact HX.out (((((w6.setCell ⟨g, n * 4, none⟩ (.int .i64 zk)).setCell ⟨g, n * 4 + 1, none⟩ (.slice zna znn znc)).setCell ⟨g, n * 4 + 2, none⟩ (.slice zra zrn zrc)).setCell ⟨g, n * 4 + 3, none⟩ (.slice zka zkn zkc)).setCell ⟨w1.heap.size, 0, none⟩ (.slice (some ⟨g, 0, none⟩) (n + 1) cap)) (Boxed.set _ ((heap_put4 w6 _ _ _ _ hlg).trans HBu6.out)) ((ownsRow_far (row_put4 _ _ _ _ HLx.out HOwn.out) hgl _)) (fun b h1 h2 => (Below.heap_setCell _ ⟨w1.heap.size, 0, none⟩ _ b h2).trans (heap_put4 w6 _ _ _ _ h1)) (by simp) rfl rfl rfl
            · skip
              go_simp
              refine hK.out _ _ ?_ (fun hHeld => ?_)
              · (try dsimp only)
                exact S4.of ((Below.heap_setCell _ ⟨w1.heap.size, 0, none⟩ _ Bx hBl).trans HS6.out) HS2.out
              clear hK K
              (try simp only [Act.put])
              (try simp only [List.setIfInBounds_toArray])
              (try simp only [List.set_cons_succ])
              (try simp only [List.set_cons_zero])
              have k0 : (w6.setCell ⟨w1.heap.size, 0, none⟩ (.slice (some ⟨g, 0, none⟩) (n + 1) cap)).cell? ⟨g, n * 4, none⟩ = some (.int .i64 0) := (World.cell?_of_block (w := w6) (Below.heap_setCell _ ⟨w1.heap.size, 0, none⟩ _ g hgl)).trans d0
              have k1 : (w6.setCell ⟨w1.heap.size, 0, none⟩ (.slice (some ⟨g, 0, none⟩) (n + 1) cap)).cell? ⟨g, n * 4 + 1, none⟩ = some (.slice none 0 0) := (World.cell?_of_block (w := w6) (Below.heap_setCell _ ⟨w1.heap.size, 0, none⟩ _ g hgl)).trans d1
              have k2 : (w6.setCell ⟨w1.heap.size, 0, none⟩ (.slice (some ⟨g, 0, none⟩) (n + 1) cap)).cell? ⟨g, n * 4 + 2, none⟩ = some (.slice none 0 0) := (World.cell?_of_block (w := w6) (Below.heap_setCell _ ⟨w1.heap.size, 0, none⟩ _ g hgl)).trans d2
              have k3 : (w6.setCell ⟨w1.heap.size, 0, none⟩ (.slice (some ⟨g, 0, none⟩) (n + 1) cap)).cell? ⟨g, n * 4 + 3, none⟩ = some (.slice none 0 0) := (World.cell?_of_block (w := w6) (Below.heap_setCell _ ⟨w1.heap.size, 0, none⟩ _ g hgl)).trans d3
              refine wpAnyH_ready (rs := [7]) (by kernel_rfl) (by simp) ?_
              refine AllReadyH.cons rfl (fun K hK => ?_) AllReadyH.nil
              go_simp
              refine hK.out _ _ ?_ (fun hHeld => ?_)
              · (try dsimp only)
                exact S4.of ((heap_put4 _ _ _ _ _ hBg).trans ((Below.heap_setCell _ ⟨w1.heap.size, 0, none⟩ _ Bx hBl).trans HS6.out)) HS2.out
              clear hK K
              (try simp only [Act.put])
              (try simp only [List.setIfInBounds_toArray])
              (try simp only [List.set_cons_succ])
              (try simp only [List.set_cons_zero])
              refine wpAnyH_done (by kernel_rfl) ?_ _
              exact HX.out (((((w6.setCell ⟨w1.heap.size, 0, none⟩ (.slice (some ⟨g, 0, none⟩) (n + 1) cap)).setCell ⟨g, n * 4, none⟩ (.int .i64 zk)).setCell ⟨g, n * 4 + 1, none⟩ (.slice zna znn znc)).setCell ⟨g, n * 4 + 2, none⟩ (.slice zra zrn zrc)).setCell ⟨g, n * 4 + 3, none⟩ (.slice zka zkn zkc)) ((heap_put4 _ _ _ _ _ hlg).trans (Boxed.set _ HBu6.out)) (row_put4 _ _ _ _ HLx.out (ownsRow_far HOwn.out hgl _)) (fun b h1 h2 => (heap_put4 _ _ _ _ _ h1).trans (Below.heap_setCell _ ⟨w1.heap.size, 0, none⟩ _ b h2)) (by simp) rfl rfl rfl
      · skip
        obtain ⟨wzx8, hWz⟩ : ∃ W, W = V0.alloc (.cells #[.int .i64 0, .slice none 0 0, .slice none 0 0, .slice none 0 0] 25) := ⟨_, rfl⟩
        have HWwzx8 : Hid (wzx8 = V0.alloc (.cells #[.int .i64 0, .slice none 0 0, .slice none 0 0, .slice none 0 0] 25)) := hWz
        have hbz : Below V0.heap.size V0 wzx8 := by rw [hWz]; exact (Below.refl _ _).alloc (Nat.le_refl _) _
        have HBwzx8 : Hid (Below w2.heap.size w2 wzx8) := HBV0.out.trans (hbz.mono hsV0)
        have hswzx8 : w2.heap.size ≤ wzx8.heap.size := HBwzx8.out.size
        have HZwzx8 : Hid (BoxC wzx8 V0.heap.size (.int .i64 0) (.slice none 0 0) (.slice none 0 0) (.slice none 0 0)) := by unfold Hid; rw [hWz]; exact BoxC.new V0 _ _ _ _
        clear hWz hbz
        go_simp
        rw [← HWwzx8.out]
        refine hK.out _ _ ?_ (fun hHeld => ?_)
        · (try dsimp only)
          exact S4.of (HBwzx8.out.block _ hBx2) HS2.out
        clear hK K
        (try simp only [Act.put])
        (try simp only [List.setIfInBounds_toArray])
        (try simp only [List.set_cons_succ])
        (try simp only [List.set_cons_zero])
        refine wpAnyH_ready (rs := [0, 2]) (by kernel_rfl) (by simp) ?_
        refine AllReadyH.cons rfl (fun K hK => ?_) (AllReadyH.cons rfl (fun K hK => ?_) AllReadyH.nil)
        · skip
          have cLc := Boxed.cell (boxed_below HBu2.out HBwzx8.out HBu2.out.lt)
          go_simp
          clear cLc
          refine hK.out _ _ ?_ (fun hHeld => ?_)
          · (try dsimp only)
            exact S4.of (HBwzx8.out.block _ hBx2) HS2.out
          clear hK K
          (try simp only [Act.put])
          (try simp only [List.setIfInBounds_toArray])
          (try simp only [List.set_cons_succ])
          (try simp only [List.set_cons_zero])
          refine wpAnyH_take (i := 3) (v := ?_) rfl (by kernel_rfl) (by kernel_rfl) (by kernel_rfl) (fun _ _ _ h => h) (Or.inl ⟨by rfl, ?_⟩) (by assumption) ?_
          rotate_left
          · intro w' hSw
            (try dsimp only at hSw)
            go_simp
            (try with_reducible rfl)
          (try simp only [Act.put])
          (try simp only [List.setIfInBounds_toArray])
          (try simp only [List.set_cons_succ])
          (try simp only [List.set_cons_zero])
          refine wpAnyH_ready (rs := [2]) (by kernel_rfl) (by simp) ?_
          refine AllReadyH.cons rfl (fun K hK => ?_) AllReadyH.nil
          · skip
            go_simp
            refine (clP_any dx _ cx wzx8 lo hi (HRx2.out.below HBwzx8.out hhi2) (by omega) (by omega)).mono ?_
            rintro e w5x9 ⟨zv, L, rfl, hO, hb5⟩
            obtain ⟨zna, znn, znc, zra, zrn, zrc, zka, zkn, zkc, rfl⟩ := hO.ow.agg
            obtain ⟨zk, hzk⟩ : ∃ zk, zk = cx.kind := ⟨_, rfl⟩
            rw [← hzk] at hO ⊢
            have HBw5x9 : Hid (Below w2.heap.size w2 w5x9) := HBwzx8.out.trans (hb5.mono hswzx8)
            have HOw5x9 : Hid (OwnC w2.heap.size w5x9 209 (.agg #[.int .i64 zk, .slice zna znn znc, .slice zra zrn zrc, .slice zka zkn zkc]) cx L) := (hO.at (by omega)).mono hswzx8
            have hsw5x9 : w2.heap.size ≤ w5x9.heap.size := HBw5x9.out.size
            have HZw5x9 : Hid (BoxC w5x9 V0.heap.size (.int .i64 0) (.slice none 0 0) (.slice none 0 0) (.slice none 0 0)) := HZwzx8.out.below hb5 HZwzx8.out.lt
            clear hO hb5 hzk
            try dsimp only
            refine hK.out _ _ ?_ (fun hHeld => ?_)
            · (try dsimp only)
              exact S4.of (HBw5x9.out.block _ hBx2) HS2.out
            clear hK K
            (try simp only [Act.put])
            (try simp only [List.setIfInBounds_toArray])
            (try simp only [List.set_cons_succ])
            (try simp only [List.set_cons_zero])
            have HRowc : Hid (w5x9.ownsRow (w1.heap.size + 1 + 1 + 1 + 1) 25 4 (.slice ua n ucap) n xs) := by have := (HA2.out.below HBw5x9.out).row.row; rw [← HNn.out] at this; exact this
            have HBuc : Hid (Boxed w5x9 w1.heap.size 23 (.slice ua n ucap)) := boxed_below HBu2.out HBw5x9.out HBu2.out.lt
            refine wpAnyH_ready (rs := [5]) (by kernel_rfl) (by simp) ?_
            refine AllReadyH.cons rfl (fun K hK => ?_) AllReadyH.nil
            refine step_append_lies _ rfl (.tmp 18) (.tmp 22) 23 rfl (w1.heap.size + 1 + 1 + 1 + 1) 25 i0 (.agg #[.int .i64 0, .slice none 0 0, .slice none 0 0, .slice none 0 0]) 4 80 Try.underlying23 hi0 hz0 hz1 hz2 rfl (by decide) (.slice ua n ucap) n xs (by simp [Act.eval]) HRowc.out ⟨V0.heap.size, 0, none⟩ 1 1 [.int .i64 0, .slice none 0 0, .slice none 0 0, .slice none 0 0] (by simp [Act.eval]) rfl (World.news_of_block HZw5x9.out) (one4 _ _ _ _ _ _ _ _ _ _) (by decide) (by unfold maxLen; omega) (by omega) (by omega) _ rfl ?_
            intro g cap w6 hown hgrow hat hlt6
            have HPut := hown
            have h6B : w6.heap[Bx]? = w5x9.heap[Bx]? := hgrow.block Bx (by omega) (fun e => HBo.out e.symm)
            have HS6 : Hid (w6.heap[Bx]? = w2.heap[Bx]?) := h6B.trans (HBw5x9.out.block Bx hBx2)
            have hgB : g ≠ Bx := by
              rcases hat with e | e
              · intro e2; subst e2; exact HBo.out e
              · omega
            have hg1 : (w1.heap.size + 1 + 1 + 1 + 1) ≤ g := by
              rcases hat with e | e
              · exact (HRowc.out.lt g e).1
              · omega
            have hgl : g ≠ w1.heap.size := by omega
            have hlg : w1.heap.size ≠ g := fun e => hgl e.symm
            have hBg : Bx ≠ g := fun e => hgB e.symm
            have hBl : Bx ≠ w1.heap.size := by omega
            have HBu6 : Hid (Boxed w6 w1.heap.size 23 (.slice ua n ucap)) := HBuc.out.kept hgrow (fun e => by have := (HRowc.out.lt _ e.symm).1; omega)
            have HOwn : Hid (w6.ownsRow (w1.heap.size + 1 + 1 + 1 + 1) 25 4 (.slice (some ⟨g, 0, none⟩) (n + 1) cap) (n + 1) (xs ++ [.int .i64 0, .slice none 0 0, .slice none 0 0, .slice none 0 0])) := hown
            have HGrow : Hid (w5x9.grownBy w6 (Value.slice ua n ucap).ownBlock) := hgrow
            have HAt : Hid ((Value.slice ua n ucap).ownBlock = some g ∨ g = w5x9.heap.size) := hat
            have HLx : Hid (xs.length = n * 4) := HRowc.out.1
            have HX : Hid (∀ F : World, Boxed F w1.heap.size 23 (.slice (some ⟨g, 0, none⟩) (n + 1) cap) → F.ownsRow (w1.heap.size + 1 + 1 + 1 + 1) 25 4 (.slice (some ⟨g, 0, none⟩) (n + 1) cap) (n + 1) (xs ++ [.int .i64 zk, .slice zna znn znc, .slice zra zrn zrc, .slice zka zkn zkc]) → (∀ b, b ≠ g → b ≠ w1.heap.size → F.heap[b]? = w6.heap[b]?) → F.heap.size = w6.heap.size → F.os = w6.os → F.tape = w6.tape → F.output = w6.output → KeepsFrom W0.heap.size W F ∧ KpL w.heap.size (w1.heap.size + 1 + 1 + 1 + 1) w1.heap.size W F ∧ InvL w.heap.size (w1.heap.size + 1 + 1 + 1 + 1) w1.heap.size w (pre ++ [(⟨deep, .agg #[.int .i64 xk, .slice xna xnn xnc, .slice xra xrn xrc, .slice xka xkn xkc], cx, dx, rd, bk⟩ : ItemL lo hi w)]) F) := fun F f1 f2 f3 f4 f5 f6 f7 => by
              obtain ⟨r1, r2, r3⟩ := InvL.more (x := (⟨deep, .agg #[.int .i64 xk, .slice xna xnn xnc, .slice xra xrn xrc, .slice xka xkn xkc], cx, dx, rd, bk⟩ : ItemL lo hi w)) (by omega) (by omega) HBu2.out HA2.out HBel2.out (by omega) rfl HAm.out.symm HBw5x9.out HOw5x9.out HNn.out HOwn.out HGrow.out HAt.out hlt6 f1 f2 f3 f4 f5 f6 f7
              exact ⟨((keepsOthers_below HB2.out).trans r1).from _, (KpL.of_below HB2.out (by omega) (by omega)).trans r2, r3⟩
            have d0 : w6.cell? ⟨g, n * 4, none⟩ = some (.int .i64 0) := by rw [HOwn.out.cellAt (n * 4) (by omega), List.getElem?_append_right (by have := HLx.out; omega), HLx.out, Nat.sub_self]; rfl
            have d1 : w6.cell? ⟨g, n * 4 + 1, none⟩ = some (.slice none 0 0) := by rw [HOwn.out.cellAt (n * 4 + 1) (by omega), List.getElem?_append_right (by have := HLx.out; omega), HLx.out, Nat.add_sub_cancel_left]; rfl
            have d2 : w6.cell? ⟨g, n * 4 + 2, none⟩ = some (.slice none 0 0) := by rw [HOwn.out.cellAt (n * 4 + 2) (by omega), List.getElem?_append_right (by have := HLx.out; omega), HLx.out, Nat.add_sub_cancel_left]; rfl
            have d3 : w6.cell? ⟨g, n * 4 + 3, none⟩ = some (.slice none 0 0) := by rw [HOwn.out.cellAt (n * 4 + 3) (by omega), List.getElem?_append_right (by have := HLx.out; omega), HLx.out, Nat.add_sub_cancel_left]; rfl
            have e0 : w6.frozen? ⟨g, n * 4, none⟩ = false := HOwn.out.frozenAt _
            have e1 : w6.frozen? ⟨g, n * 4 + 1, none⟩ = false := HOwn.out.frozenAt _
            have e2 : w6.frozen? ⟨g, n * 4 + 2, none⟩ = false := HOwn.out.frozenAt _
            have e3 : w6.frozen? ⟨g, n * 4 + 3, none⟩ = false := HOwn.out.frozenAt _
            have cL6 := Boxed.cell HBu6.out
            have fL6 := Boxed.frozen HBu6.out
            have hnn1 : (n : Int) < (n : Int) + 1 := by omega
            clear hown hgrow hat h6B HPut
            refine hK.out _ _ ?_ (fun hHeld => ?_)
            · (try dsimp only)
              exact S4.of HS6.out HS2.out
            clear hK K
            (try simp only [Act.put])
            (try simp only [List.setIfInBounds_toArray])
            (try simp only [List.set_cons_succ])
            (try simp only [List.set_cons_zero])
            refine wpAnyH_take (i := 6) (v := ?_) rfl (by kernel_rfl) (by kernel_rfl) (by kernel_rfl) (fun _ _ _ h => h) (Or.inl ⟨by rfl, ?_⟩) (by assumption) ?_
            rotate_left
            · intro w' hSw
              (try dsimp only at hSw)
              go_simp
              (try with_reducible rfl)
            (try simp only [Act.put])
            (try simp only [List.setIfInBounds_toArray])
            (try simp only [List.set_cons_succ])
            (try simp only [List.set_cons_zero])
            refine wpAnyH_ready (rs := [7, 8]) (by kernel_rfl) (by simp) ?_
            refine AllReadyH.cons rfl (fun K hK => ?_) (AllReadyH.cons rfl (fun K hK => ?_) AllReadyH.nil)
            · skip
              go_simp
              refine hK.out _ _ ?_ (fun hHeld => ?_)
              · (try dsimp only)
                exact S4.of ((heap_put4 w6 _ _ _ _ hBg).trans HS6.out) HS2.out
              clear hK K
              (try simp only [Act.put])
              (try simp only [List.setIfInBounds_toArray])
              (try simp only [List.set_cons_succ])
              (try simp only [List.set_cons_zero])
              refine wpAnyH_ready (rs := [8]) (by kernel_rfl) (by simp) ?_
              refine AllReadyH.cons rfl (fun K hK => ?_) AllReadyH.nil
              go_simp
              refine hK.out _ _ ?_ (fun hHeld => ?_)
              · (try dsimp only)
                exact S4.of ((Below.heap_setCell _ ⟨w1.heap.size, 0, none⟩ _ Bx hBl).trans ((heap_put4 w6 _ _ _ _ hBg).trans HS6.out)) HS2.out
              clear hK K
              (try simp only [Act.put])
              (try simp only [List.setIfInBounds_toArray])
              (try simp only [List.set_cons_succ])
              (try simp only [List.set_cons_zero])
              refine wpAnyH_done (by kernel_rfl) ?_ _
              exact HX.out (((((w6.setCell ⟨g, n * 4, none⟩ (.int .i64 zk)).setCell ⟨g, n * 4 + 1, none⟩ (.slice zna znn znc)).setCell ⟨g, n * 4 + 2, none⟩ (.slice zra zrn zrc)).setCell ⟨g, n * 4 + 3, none⟩ (.slice zka zkn zkc)).setCell ⟨w1.heap.size, 0, none⟩ (.slice (some ⟨g, 0, none⟩) (n + 1) cap)) (Boxed.set _ ((heap_put4 w6 _ _ _ _ hlg).trans HBu6.out)) ((ownsRow_far (row_put4 _ _ _ _ HLx.out HOwn.out) hgl _)) (fun b h1 h2 => (Below.heap_setCell _ ⟨w1.heap.size, 0, none⟩ _ b h2).trans (heap_put4 w6 _ _ _ _ h1)) (by simp) rfl rfl rfl
            · skip
              go_simp
              refine hK.out _ _ ?_ (fun hHeld => ?_)
              · (try dsimp only)
                exact S4.of ((Below.heap_setCell _ ⟨w1.heap.size, 0, none⟩ _ Bx hBl).trans HS6.out) HS2.out
              clear hK K
              (try simp only [Act.put])
              (try simp only [List.setIfInBounds_toArray])
              (try simp only [List.set_cons_succ])
              (try simp only [List.set_cons_zero])
              have k0 : (w6.setCell ⟨w1.heap.size, 0, none⟩ (.slice (some ⟨g, 0, none⟩) (n + 1) cap)).cell? ⟨g, n * 4, none⟩ = some (.int .i64 0) := (World.cell?_of_block (w := w6) (Below.heap_setCell _ ⟨w1.heap.size, 0, none⟩ _ g hgl)).trans d0
              have k1 : (w6.setCell ⟨w1.heap.size, 0, none⟩ (.slice (some ⟨g, 0, none⟩) (n + 1) cap)).cell? ⟨g, n * 4 + 1, none⟩ = some (.slice none 0 0) := (World.cell?_of_block (w := w6) (Below.heap_setCell _ ⟨w1.heap.size, 0, none⟩ _ g hgl)).trans d1
              have k2 : (w6.setCell ⟨w1.heap.size, 0, none⟩ (.slice (some ⟨g, 0, none⟩) (n + 1) cap)).cell? ⟨g, n * 4 + 2, none⟩ = some (.slice none 0 0) := (World.cell?_of_block (w := w6) (Below.heap_setCell _ ⟨w1.heap.size, 0, none⟩ _ g hgl)).trans d2
              have k3 : (w6.setCell ⟨w1.heap.size, 0, none⟩ (.slice (some ⟨g, 0, none⟩) (n + 1) cap)).cell? ⟨g, n * 4 + 3, none⟩ = some (.slice none 0 0) := (World.cell?_of_block (w := w6) (Below.heap_setCell _ ⟨w1.heap.size, 0, none⟩ _ g hgl)).trans d3
              refine wpAnyH_ready (rs := [7]) (by kernel_rfl) (by simp) ?_
              refine AllReadyH.cons rfl (fun K hK => ?_) AllReadyH.nil
              go_simp
              refine hK.out _ _ ?_ (fun hHeld => ?_)
              · (try dsimp only)
                exact S4.of ((heap_put4 _ _ _ _ _ hBg).trans ((Below.heap_setCell _ ⟨w1.heap.size, 0, none⟩ _ Bx hBl).trans HS6.out)) HS2.out
              clear hK K
              (try simp only [Act.put])
              (try simp only [List.setIfInBounds_toArray])
              (try simp only [List.set_cons_succ])
              (try simp only [List.set_cons_zero])
              refine wpAnyH_done (by kernel_rfl) ?_ _
              exact HX.out (((((w6.setCell ⟨w1.heap.size, 0, none⟩ (.slice (some ⟨g, 0, none⟩) (n + 1) cap)).setCell ⟨g, n * 4, none⟩ (.int .i64 zk)).setCell ⟨g, n * 4 + 1, none⟩ (.slice zna znn znc)).setCell ⟨g, n * 4 + 2, none⟩ (.slice zra zrn zrc)).setCell ⟨g, n * 4 + 3, none⟩ (.slice zka zkn zkc)) ((heap_put4 _ _ _ _ _ hlg).trans (Boxed.set _ HBu6.out)) (row_put4 _ _ _ _ HLx.out (ownsRow_far HOwn.out hgl _)) (fun b h1 h2 => (heap_put4 _ _ _ _ _ h1).trans (Below.heap_setCell _ ⟨w1.heap.size, 0, none⟩ _ b h2)) (by simp) rfl rfl rfl
        · skip
          go_simp
          refine (clP_any dx _ cx wzx8 lo hi (HRx2.out.below HBwzx8.out hhi2) (by omega) (by omega)).mono ?_
          rintro e w5x10 ⟨zv, L, rfl, hO, hb5⟩
          obtain ⟨zna, znn, znc, zra, zrn, zrc, zka, zkn, zkc, rfl⟩ := hO.ow.agg
          obtain ⟨zk, hzk⟩ : ∃ zk, zk = cx.kind := ⟨_, rfl⟩
          rw [← hzk] at hO ⊢
          have HBw5x10 : Hid (Below w2.heap.size w2 w5x10) := HBwzx8.out.trans (hb5.mono hswzx8)
          have HOw5x10 : Hid (OwnC w2.heap.size w5x10 209 (.agg #[.int .i64 zk, .slice zna znn znc, .slice zra zrn zrc, .slice zka zkn zkc]) cx L) := (hO.at (by omega)).mono hswzx8
          have hsw5x10 : w2.heap.size ≤ w5x10.heap.size := HBw5x10.out.size
          have HZw5x10 : Hid (BoxC w5x10 V0.heap.size (.int .i64 0) (.slice none 0 0) (.slice none 0 0) (.slice none 0 0)) := HZwzx8.out.below hb5 HZwzx8.out.lt
          clear hO hb5 hzk
          try dsimp only
          refine hK.out _ _ ?_ (fun hHeld => ?_)
          · (try dsimp only)
            exact S4.of (HBw5x10.out.block _ hBx2) HS2.out
          clear hK K
          (try simp only [Act.put])
          (try simp only [List.setIfInBounds_toArray])
          (try simp only [List.set_cons_succ])
          (try simp only [List.set_cons_zero])
          refine wpAnyH_ready (rs := [0]) (by kernel_rfl) (by simp) ?_
          refine AllReadyH.cons rfl (fun K hK => ?_) AllReadyH.nil
          · skip
            have cLc := Boxed.cell (boxed_below HBu2.out HBw5x10.out HBu2.out.lt)
            go_simp
            clear cLc
            refine hK.out _ _ ?_ (fun hHeld => ?_)
            · (try dsimp only)
              exact S4.of (HBw5x10.out.block _ hBx2) HS2.out
            clear hK K
            (try simp only [Act.put])
            (try simp only [List.setIfInBounds_toArray])
            (try simp only [List.set_cons_succ])
            (try simp only [List.set_cons_zero])
            refine wpAnyH_take (i := 3) (v := ?_) rfl (by kernel_rfl) (by kernel_rfl) (by kernel_rfl) (fun _ _ _ h => h) (Or.inl ⟨by rfl, ?_⟩) (by assumption) ?_
            rotate_left
            · intro w' hSw
              (try dsimp only at hSw)
              go_simp
              (try with_reducible rfl)
            (try simp only [Act.put])
            (try simp only [List.setIfInBounds_toArray])
            (try simp only [List.set_cons_succ])
            (try simp only [List.set_cons_zero])
            have HRowc : Hid (w5x10.ownsRow (w1.heap.size + 1 + 1 + 1 + 1) 25 4 (.slice ua n ucap) n xs) := by have := (HA2.out.below HBw5x10.out).row.row; rw [← HNn.out] at this; exact this
            have HBuc : Hid (Boxed w5x10 w1.heap.size 23 (.slice ua n ucap)) := boxed_below HBu2.out HBw5x10.out HBu2.out.lt
            refine wpAnyH_ready (rs := [5]) (by kernel_rfl) (by simp) ?_
            refine AllReadyH.cons rfl (fun K hK => ?_) AllReadyH.nil
            refine step_append_lies _ rfl (.tmp 18) (.tmp 22) 23 rfl (w1.heap.size + 1 + 1 + 1 + 1) 25 i0 (.agg #[.int .i64 0, .slice none 0 0, .slice none 0 0, .slice none 0 0]) 4 80 Try.underlying23 hi0 hz0 hz1 hz2 rfl (by decide) (.slice ua n ucap) n xs (by simp [Act.eval]) HRowc.out ⟨V0.heap.size, 0, none⟩ 1 1 [.int .i64 0, .slice none 0 0, .slice none 0 0, .slice none 0 0] (by simp [Act.eval]) rfl (World.news_of_block HZw5x10.out) (one4 _ _ _ _ _ _ _ _ _ _) (by decide) (by unfold maxLen; omega) (by omega) (by omega) _ rfl ?_
            intro g cap w6 hown hgrow hat hlt6
            have HPut := hown
            have h6B : w6.heap[Bx]? = w5x10.heap[Bx]? := hgrow.block Bx (by omega) (fun e => HBo.out e.symm)
            have HS6 : Hid (w6.heap[Bx]? = w2.heap[Bx]?) := h6B.trans (HBw5x10.out.block Bx hBx2)
            have hgB : g ≠ Bx := by
              rcases hat with e | e
              · intro e2; subst e2; exact HBo.out e
              · omega
            have hg1 : (w1.heap.size + 1 + 1 + 1 + 1) ≤ g := by
              rcases hat with e | e
              · exact (HRowc.out.lt g e).1
              · omega
            have hgl : g ≠ w1.heap.size := by omega
            have hlg : w1.heap.size ≠ g := fun e => hgl e.symm
            have hBg : Bx ≠ g := fun e => hgB e.symm
            have hBl : Bx ≠ w1.heap.size := by omega
            have HBu6 : Hid (Boxed w6 w1.heap.size 23 (.slice ua n ucap)) := HBuc.out.kept hgrow (fun e => by have := (HRowc.out.lt _ e.symm).1; omega)
            have HOwn : Hid (w6.ownsRow (w1.heap.size + 1 + 1 + 1 + 1) 25 4 (.slice (some ⟨g, 0, none⟩) (n + 1) cap) (n + 1) (xs ++ [.int .i64 0, .slice none 0 0, .slice none 0 0, .slice none 0 0])) := hown
            have HGrow : Hid (w5x10.grownBy w6 (Value.slice ua n ucap).ownBlock) := hgrow
            have HAt : Hid ((Value.slice ua n ucap).ownBlock = some g ∨ g = w5x10.heap.size) := hat
            have HLx : Hid (xs.length = n * 4) := HRowc.out.1
            have HX : Hid (∀ F : World, Boxed F w1.heap.size 23 (.slice (some ⟨g, 0, none⟩) (n + 1) cap) → F.ownsRow (w1.heap.size + 1 + 1 + 1 + 1) 25 4 (.slice (some ⟨g, 0, none⟩) (n + 1) cap) (n + 1) (xs ++ [.int .i64 zk, .slice zna znn znc, .slice zra zrn zrc, .slice zka zkn zkc]) → (∀ b, b ≠ g → b ≠ w1.heap.size → F.heap[b]? = w6.heap[b]?) → F.heap.size = w6.heap.size → F.os = w6.os → F.tape = w6.tape → F.output = w6.output → KeepsFrom W0.heap.size W F ∧ KpL w.heap.size (w1.heap.size + 1 + 1 + 1 + 1) w1.heap.size W F ∧ InvL w.heap.size (w1.heap.size + 1 + 1 + 1 + 1) w1.heap.size w (pre ++ [(⟨deep, .agg #[.int .i64 xk, .slice xna xnn xnc, .slice xra xrn xrc, .slice xka xkn xkc], cx, dx, rd, bk⟩ : ItemL lo hi w)]) F) := fun F f1 f2 f3 f4 f5 f6 f7 => by
              obtain ⟨r1, r2, r3⟩ := InvL.more (x := (⟨deep, .agg #[.int .i64 xk, .slice xna xnn xnc, .slice xra xrn xrc, .slice xka xkn xkc], cx, dx, rd, bk⟩ : ItemL lo hi w)) (by omega) (by omega) HBu2.out HA2.out HBel2.out (by omega) rfl HAm.out.symm HBw5x10.out HOw5x10.out HNn.out HOwn.out HGrow.out HAt.out hlt6 f1 f2 f3 f4 f5 f6 f7
              exact ⟨((keepsOthers_below HB2.out).trans r1).from _, (KpL.of_below HB2.out (by omega) (by omega)).trans r2, r3⟩
            have d0 : w6.cell? ⟨g, n * 4, none⟩ = some (.int .i64 0) := by rw [HOwn.out.cellAt (n * 4) (by omega), List.getElem?_append_right (by have := HLx.out; omega), HLx.out, Nat.sub_self]; rfl
            have d1 : w6.cell? ⟨g, n * 4 + 1, none⟩ = some (.slice none 0 0) := by rw [HOwn.out.cellAt (n * 4 + 1) (by omega), List.getElem?_append_right (by have := HLx.out; omega), HLx.out, Nat.add_sub_cancel_left]; rfl
            have d2 : w6.cell? ⟨g, n * 4 + 2, none⟩ = some (.slice none 0 0) := by rw [HOwn.out.cellAt (n * 4 + 2) (by omega), List.getElem?_append_right (by have := HLx.out; omega), HLx.out, Nat.add_sub_cancel_left]; rfl
            have d3 : w6.cell? ⟨g, n * 4 + 3, none⟩ = some (.slice none 0 0) := by rw [HOwn.out.cellAt (n * 4 + 3) (by omega), List.getElem?_append_right (by have := HLx.out; omega), HLx.out, Nat.add_sub_cancel_left]; rfl
            have e0 : w6.frozen? ⟨g, n * 4, none⟩ = false := HOwn.out.frozenAt _
            have e1 : w6.frozen? ⟨g, n * 4 + 1, none⟩ = false := HOwn.out.frozenAt _
            have e2 : w6.frozen? ⟨g, n * 4 + 2, none⟩ = false := HOwn.out.frozenAt _
            have e3 : w6.frozen? ⟨g, n * 4 + 3, none⟩ = false := HOwn.out.frozenAt _
            have cL6 := Boxed.cell HBu6.out
            have fL6 := Boxed.frozen HBu6.out
            have hnn1 : (n : Int) < (n : Int) + 1 := by omega
            clear hown hgrow hat h6B HPut
            refine hK.out _ _ ?_ (fun hHeld => ?_)
            · (try dsimp only)
              exact S4.of HS6.out HS2.out
            clear hK K
            (try simp only [Act.put])
            (try simp only [List.setIfInBounds_toArray])
            (try simp only [List.set_cons_succ])
            (try simp only [List.set_cons_zero])
            refine wpAnyH_take (i := 6) (v := ?_) rfl (by kernel_rfl) (by kernel_rfl) (by kernel_rfl) (fun _ _ _ h => h) (Or.inl ⟨by rfl, ?_⟩) (by assumption) ?_
            rotate_left
            · intro w' hSw
              (try dsimp only at hSw)
              go_simp
              (try with_reducible rfl)
            (try simp only [Act.put])
            (try simp only [List.setIfInBounds_toArray])
            (try simp only [List.set_cons_succ])
            (try simp only [List.set_cons_zero])
            refine wpAnyH_ready (rs := [7, 8]) (by kernel_rfl) (by simp) ?_
            refine AllReadyH.cons rfl (fun K hK => ?_) (AllReadyH.cons rfl (fun K hK => ?_) AllReadyH.nil)
            · skip
              go_simp
              refine hK.out _ _ ?_ (fun hHeld => ?_)
              · (try dsimp only)
                exact S4.of ((heap_put4 w6 _ _ _ _ hBg).trans HS6.out) HS2.out
              clear hK K
              (try simp only [Act.put])
              (try simp only [List.setIfInBounds_toArray])
              (try simp only [List.set_cons_succ])
              (try simp only [List.set_cons_zero])
              refine wpAnyH_ready (rs := [8]) (by kernel_rfl) (by simp) ?_
              refine AllReadyH.cons rfl (fun K hK => ?_) AllReadyH.nil
              go_simp
              refine hK.out _ _ ?_ (fun hHeld => ?_)
              · (try dsimp only)
                exact S4.of ((Below.heap_setCell _ ⟨w1.heap.size, 0, none⟩ _ Bx hBl).trans ((heap_put4 w6 _ _ _ _ hBg).trans HS6.out)) HS2.out
              clear hK K
              (try simp only [Act.put])
              (try simp only [List.setIfInBounds_toArray])
              (try simp only [List.set_cons_succ])
              (try simp only [List.set_cons_zero])
              refine wpAnyH_done (by kernel_rfl) ?_ _
              exact HX.out (((((w6.setCell ⟨g, n * 4, none⟩ (.int .i64 zk)).setCell ⟨g, n * 4 + 1, none⟩ (.slice zna znn znc)).setCell ⟨g, n * 4 + 2, none⟩ (.slice zra zrn zrc)).setCell ⟨g, n * 4 + 3, none⟩ (.slice zka zkn zkc)).setCell ⟨w1.heap.size, 0, none⟩ (.slice (some ⟨g, 0, none⟩) (n + 1) cap)) (Boxed.set _ ((heap_put4 w6 _ _ _ _ hlg).trans HBu6.out)) ((ownsRow_far (row_put4 _ _ _ _ HLx.out HOwn.out) hgl _)) (fun b h1 h2 => (Below.heap_setCell _ ⟨w1.heap.size, 0, none⟩ _ b h2).trans (heap_put4 w6 _ _ _ _ h1)) (by simp) rfl rfl rfl
            · skip
              go_simp
              refine hK.out _ _ ?_ (fun hHeld => ?_)
              · (try dsimp only)
                exact S4.of ((Below.heap_setCell _ ⟨w1.heap.size, 0, none⟩ _ Bx hBl).trans HS6.out) HS2.out
              clear hK K
              (try simp only [Act.put])
              (try simp only [List.setIfInBounds_toArray])
              (try simp only [List.set_cons_succ])
              (try simp only [List.set_cons_zero])
              have k0 : (w6.setCell ⟨w1.heap.size, 0, none⟩ (.slice (some ⟨g, 0, none⟩) (n + 1) cap)).cell? ⟨g, n * 4, none⟩ = some (.int .i64 0) := (World.cell?_of_block (w := w6) (Below.heap_setCell _ ⟨w1.heap.size, 0, none⟩ _ g hgl)).trans d0
              have k1 : (w6.setCell ⟨w1.heap.size, 0, none⟩ (.slice (some ⟨g, 0, none⟩) (n + 1) cap)).cell? ⟨g, n * 4 + 1, none⟩ = some (.slice none 0 0) := (World.cell?_of_block (w := w6) (Below.heap_setCell _ ⟨w1.heap.size, 0, none⟩ _ g hgl)).trans d1
              have k2 : (w6.setCell ⟨w1.heap.size, 0, none⟩ (.slice (some ⟨g, 0, none⟩) (n + 1) cap)).cell? ⟨g, n * 4 + 2, none⟩ = some (.slice none 0 0) := (World.cell?_of_block (w := w6) (Below.heap_setCell _ ⟨w1.heap.size, 0, none⟩ _ g hgl)).trans d2
              have k3 : (w6.setCell ⟨w1.heap.size, 0, none⟩ (.slice (some ⟨g, 0, none⟩) (n + 1) cap)).cell? ⟨g, n * 4 + 3, none⟩ = some (.slice none 0 0) := (World.cell?_of_block (w := w6) (Below.heap_setCell _ ⟨w1.heap.size, 0, none⟩ _ g hgl)).trans d3
              refine wpAnyH_ready (rs := [7]) (by kernel_rfl) (by simp) ?_
              refine AllReadyH.cons rfl (fun K hK => ?_) AllReadyH.nil
              go_simp
              refine hK.out _ _ ?_ (fun hHeld => ?_)
              · (try dsimp only)
                exact S4.of ((heap_put4 _ _ _ _ _ hBg).trans ((Below.heap_setCell _ ⟨w1.heap.size, 0, none⟩ _ Bx hBl).trans HS6.out)) HS2.out
              clear hK K
              (try simp only [Act.put])
              (try simp only [List.setIfInBounds_toArray])
              (try simp only [List.set_cons_succ])
              (try simp only [List.set_cons_zero])
              refine wpAnyH_done (by kernel_rfl) ?_ _
              exact HX.out (((((w6.setCell ⟨w1.heap.size, 0, none⟩ (.slice (some ⟨g, 0, none⟩) (n + 1) cap)).setCell ⟨g, n * 4, none⟩ (.int .i64 zk)).setCell ⟨g, n * 4 + 1, none⟩ (.slice zna znn znc)).setCell ⟨g, n * 4 + 2, none⟩ (.slice zra zrn zrc)).setCell ⟨g, n * 4 + 3, none⟩ (.slice zka zkn zkc)) ((heap_put4 _ _ _ _ _ hlg).trans (Boxed.set _ HBu6.out)) (row_put4 _ _ _ _ HLx.out (ownsRow_far HOwn.out hgl _)) (fun b h1 h2 => (heap_put4 _ _ _ _ _ h1).trans (Below.heap_setCell _ ⟨w1.heap.size, 0, none⟩ _ b h2)) (by simp) rfl rfl rfl
  case done =>
    rintro D ys W hD hS hI hK
    obtain ⟨⟨u, Ls, xs, hu, hA⟩, hbel, hszW⟩ := hI
    have cR := Boxed.cell hu
    have HBel : Hid (Below w.heap.size w W) := hbel
    have HA : Hid (AnsL (w1.heap.size + 1 + 1 + 1 + 1) W 209 u (subsN c) Ls xs) := by unfold Hid; rw [HE.out, ← hS]; exact hA
    clear hA hbel
    gi_wp2
    refine ⟨by simp, .inl ⟨_, _, rfl, run_takeDeferred hK, ?_⟩⟩
    refine ⟨_, results_tmp rfl _ _ _, _, Ls, xs, rfl, (HA.out.keepC (fun b o hb hc => ?_) (grownBy_putObj' _ D _).size).mono (by omega), HBel.out.grown (grownBy_putObj' _ D _) (by omega) (fun k e => by cases e; omega)⟩
    exact (World.putObj_heap_other (fun e => by subst e; rw [hK] at hb; cases hb; cases hc)).trans hb
  case stop =>
    rintro D cd pre W hD hpre hI hK
    exact hI.elim

theorem implSubs_any {d : Nat} {v : Value} {c : CN} {w : World} {lo hi : Nat} (h : RdC lo hi w d v c) (hhi : hi ≤ w.heap.size) (hbk : c.bulk ≤ 1048576) :
    Calls Try.prog 5 #[v] w fun e w' => ∃ u Ls xs, e = .returned u ∧ AnsL w.heap.size w' 209 u (subsN c) Ls xs ∧ Below w.heap.size w w' := by
  cases hok : conOk c
  · exact implSubs_no h hhi hbk hok
  · exact implSubs_yes h hhi hbk hok

end Go.Proofs.Ytedihcjhfkdkjaa
