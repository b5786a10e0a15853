/- ConNames of the program: the names of a concept, each once, ascending, in memory of its own. -/
import Derived.Test.YtedihcjhfkdkjaaConNmI0
namespace Go.Proofs.Ytedihcjhfkdkjaa
open Go.RowKit Go.Shelf
namespace Nm

attribute [local go_sem] Oper.semAt_some

set_option maxHeartbeats 1000000 in
theorem implConNames_no {d : Nat} {v : Value} {c : CN} {w : World} {lo hi : Nat} (h : RdC lo hi w d v c) (hhi : hi ≤ w.heap.size) (hbk : c.bulk ≤ 1048576) (hok : conOk c = false) :
    Calls Try.prog 11 #[v] w fun e w' => ∃ u gs, e = .returned u ∧ OwnW w.heap.size w' u (ansCN c) gs ∧ Below w.heap.size w w' := by
  have HRd : Hid (RdC lo hi w d v c) := h
  obtain ⟨k, na, nn, nc, ra, rn, rc, ka, kn, kc, rfl⟩ := h.shape
  have hb0 : Below w.heap.size w (w.alloc (.cells #[.int .i64 k, .slice na nn nc, .slice ra rn rc, .slice ka kn kc] 25)) := (Below.refl _ _).alloc (Nat.le_refl _) _
  have HB0 : Hid (Below w.heap.size w (w.alloc (.cells #[.int .i64 k, .slice na nn nc, .slice ra rn rc, .slice ka kn kc] 25))) := hb0
  have HR0 : Hid (RdC lo hi (w.alloc (.cells #[.int .i64 k, .slice na nn nc, .slice ra rn rc, .slice ka kn kc] 25)) d (.agg #[.int .i64 k, .slice na nn nc, .slice ra rn rc, .slice ka kn kc]) c) := HRd.out.below hb0 hhi
  have HE : Hid (ansCN c = []) := by unfold Hid ansCN; rw [hok]; rfl
  clear hb0 h
  go_enter Try.func11, Try.ntmps11
  go_wp2_with fail
  refine (implConOk_any HR0.out (Nat.le_trans hhi HB0.out.size) hbk).mono ?_
  rintro e w1 ⟨rfl, hb1⟩
  rw [hok]
  have HB1 : Hid (Below w.heap.size w w1) := HB0.out.trans (hb1.mono HB0.out.size)
  clear hb1
  go_wp2_with fail
  go_ret
  exact ⟨_, [], rfl, by rw [HE.out]; exact OwnW.nil _ _, HB1.out⟩

set_option maxRecDepth 100000 in
set_option maxHeartbeats 8000000 in
theorem implConNames_yes {d : Nat} {v : Value} {c : CN} {w : World} {lo hi : Nat} (h : RdC lo hi w d v c) (hhi : hi ≤ w.heap.size) (hbk : c.bulk ≤ 1048576) (hok : conOk c = true) :
    Calls Try.prog 11 #[v] w fun e w' => ∃ u gs, e = .returned u ∧ OwnW w.heap.size w' u (ansCN c) gs ∧ Below w.heap.size w w' := by
  have HRd : Hid (RdC lo hi w d v c) := h
  have HBy : Hid (BytP (parts c 1)) := h.byts 1
  obtain ⟨k, na, nn, nc, ra, rn, rc, ka, kn, kc, rfl⟩ := h.shape
  have hb0 : Below w.heap.size w (w.alloc (.cells #[.int .i64 k, .slice na nn nc, .slice ra rn rc, .slice ka kn kc] 25)) := (Below.refl _ _).alloc (Nat.le_refl _) _
  have HB0 : Hid (Below w.heap.size w (w.alloc (.cells #[.int .i64 k, .slice na nn nc, .slice ra rn rc, .slice ka kn kc] 25))) := hb0
  have HR0 : Hid (RdC lo hi (w.alloc (.cells #[.int .i64 k, .slice na nn nc, .slice ra rn rc, .slice ka kn kc] 25)) d (.agg #[.int .i64 k, .slice na nn nc, .slice ra rn rc, .slice ka kn kc]) c) := HRd.out.below hb0 hhi
  have HBx0 : Hid (BoxC (w.alloc (.cells #[.int .i64 k, .slice na nn nc, .slice ra rn rc, .slice ka kn kc] 25)) w.heap.size (.int .i64 k) (.slice na nn nc) (.slice ra rn rc) (.slice ka kn kc)) := BoxC.new w _ _ _ _
  have HE : Hid (ansCN c = namesC c []) := by unfold Hid ansCN; rw [hok]; rfl
  have HShc : Hid (ShpC c) := ⟨bulk_of_ok hok, 1, conOk_shape hok⟩
  have HN16 : Hid ((parts c 1).length ≤ 16) := conOk_len hok
  clear hb0 h
  refine (callsIn_wide (n := 6)).1 ?_
  refine callsIn_of_wp_marks Try.func11 rfl trivial ?_ rfl
  simp only [Try.ntmps11, List.size_toArray, List.length_cons, List.length_nil, Nat.reduceAdd, Nat.reduceSub, Array.replicate_succ, Array.replicate_zero, List.push_toArray, List.append_toArray, List.nil_append, List.cons_append]
  gi_wp2_with fail
  refine ⟨trivial, ?_⟩
  refine (callsIn_wide.2 (implConOk_any HR0.out (Nat.le_trans hhi HB0.out.size) hbk)).mono ?_
  rintro e w1 ⟨rfl, hb1⟩
  rw [hok]
  have HB1 : Hid (Below w.heap.size w w1) := HB0.out.trans (hb1.mono HB0.out.size)
  have HBx1 : Hid (BoxC w1 w.heap.size (.int .i64 k) (.slice na nn nc) (.slice ra rn rc) (.slice ka kn kc)) := HBx0.out.below hb1 HBx0.out.lt
  obtain ⟨q0, q1, q2, q3⟩ := HBx1.out.cells
  have hs1 : w.heap.size < w1.heap.size := HBx1.out.lt
  have hs1' : w.heap.size ≠ w1.heap.size := by omega
  clear hb1
  gi_wp2_with (first | (refine ⟨trivial, ?_⟩; gi_at_call 17; refine (conTree_in _ _ _ _ _ _ _ _ _ _ _ _).mono ?_; rintro e w' ⟨rfl, rfl⟩) | (refine ⟨trivial, ?_⟩; gi_at_call 18; refine (all_in _ _ _ _ _ _ _ _ _ _ _ _).mono ?_; rintro e w' ⟨rfl, rfl⟩))
  obtain ⟨W0, hW0⟩ : ∃ W0, W0 = ((((w1.alloc (.cells #[.slice none 0 0] 33)).alloc (.cells #[.int .i64 k, .slice na nn nc, .slice ra rn rc, .slice ka kn kc] 25)).alloc (.cells #[.int .i64 k, .slice na nn nc, .slice ra rn rc, .slice ka kn kc, .func (.func 36) #[] #[]] 44)).alloc (.cells #[.int .i64 k, .slice na nn nc, .slice ra rn rc, .slice ka kn kc, .func (.func 36) #[] #[]] 44)) := ⟨_, rfl⟩
  have hsz : W0.heap.size = w1.heap.size + 1 + 1 + 1 + 1 := by rw [hW0]; simp
  have hb0 : Below w.heap.size w W0 := by rw [hW0]; exact (((HB1.out.alloc HB1.out.size _).alloc (by simp; omega) _).alloc (by simp; omega) _).alloc (by simp; omega) _
  have hI1 : Boxed W0 w1.heap.size 33 (.slice none 0 0) := by
    rw [hW0]; exact (((Boxed.new w1 33 (.slice none 0 0)).alloc _).alloc _).alloc _
  have hBT : BoxT W0 (w1.heap.size + 1 + 1 + 1) k na nn nc ra rn rc ka kn kc := by
    rw [hW0]; have := World.alloc_heap_new (((w1.alloc (.cells #[.slice none 0 0] 33)).alloc (.cells #[.int .i64 k, .slice na nn nc, .slice ra rn rc, .slice ka kn kc] 25)).alloc (.cells #[.int .i64 k, .slice na nn nc, .slice ra rn rc, .slice ka kn kc, .func (.func 36) #[] #[]] 44)) (.cells #[.int .i64 k, .slice na nn nc, .slice ra rn rc, .slice ka kn kc, .func (.func 36) #[] #[]] 44)
    simp only [World.size_alloc] at this; exact this
  rw [← hW0]
  clear hW0
  have hI0 : InvN (lo := lo) (hi := hi) (w0 := w) w.heap.size (w1.heap.size + 1 + 1 + 1 + 1) w1.heap.size w [] W0 := ⟨⟨_, [], hI1, OwnW.nil _ _⟩, hb0, by omega⟩
  obtain ⟨i0, hi0, hz0, hz1, hz2⟩ := info_parts Try.infoBS
  refine wpIn_rangeFunc_ownH rfl (by omega) (gf := 37) (lb := #[.pointer (some ⟨w1.heap.size + 1 + 1 + 1, 0, none⟩)]) rfl trivial (enters_of Try.func37 (by kernel_rfl) rfl)
    (partsL_stops (lo := lo) (hi := hi) (B := w.heap.size) (n1 := w1.heap.size + 1 + 1 + 1 + 1) (lb := w1.heap.size) 5 (w1.heap.size + 1 + 1 + 1) hhi (by omega) (by omega) c HRd.out HShc.out hb0 (by omega) hBT hI0.ownLt) KpL.trans
    (fun W l o o' hl hW hc _ => KpL.putObj W l o o' (by omega) (by omega) hW hc) (Below.refl _ _) (fun _ => rfl)
    (InvN w.heap.size (w1.heap.size + 1 + 1 + 1 + 1) w1.heap.size w) (fun _ _ _ => False) (InvN.own (by omega) (by omega)) (fun _ _ _ _ _ h _ _ => h)
    hI0
    (AxL (w1.heap.size + 1 + 1 + 1 + 1) w1.heap.size (fun dv pv bx => #[.agg #[.int .i64 k, .slice na nn nc, .slice ra rn rc, .slice ka kn kc], .pointer (some ⟨w.heap.size, 0, none⟩), .slice none 0 0, .pointer (some ⟨w1.heap.size, 0, none⟩), undef, bx, .agg #[.int .i64 k, .slice na nn nc, .slice ra rn rc, .slice ka kn kc], .bool true, .bool false, .agg #[.int .i64 k, .slice na nn nc, .slice ra rn rc, .slice ka kn kc], .agg #[.int .i64 k, .slice na nn nc, .slice ra rn rc, .slice ka kn kc, .func (.func 36) #[] #[]], .func (.func 37) #[] #[.pointer (some ⟨w1.heap.size + 1 + 1 + 1, 0, none⟩)], dv, pv, undef, undef, undef, undef, undef, undef, undef, undef, undef, undef, undef, undef, undef])) (AxL.stays (by omega) (by omega)) ?assign ?body ?done ?stop
  case assign =>
    rintro l pre ⟨deep, v, cx, dx, rd, bk⟩ W K hi hK
    obtain ⟨xk, xna, xnn, xnc, xra, xrn, xrc, xka, xkn, xkc, rfl⟩ := rd.shape
    unfold encL
    gi_wp2
    have hlt := hi.size
    have hB : Below W.heap.size W (W.alloc (.cells #[.int .i64 xk, .slice xna xnn xnc, .slice xra xrn xrc, .slice xka xkn xkc] 25)) := (Below.refl _ _).alloc (Nat.le_refl _) _
    exact hK _ _ ((keepsOthers_below hB).from _) (KpL.of_below hB (by omega) (by omega)) (hi.below (by omega) hB)
      ⟨W.heap.size, xk, xna, xnn, xnc, xra, xrn, xrc, xka, xkn, xkc, hi.size, OwnAt.ne (OwnAt.below hB (by omega) hi.ownLt) (Nat.le_refl _), rfl, BoxC.new W _ _ _ _, rfl⟩
  case body =>
    rintro l pre ⟨deep, v, cx, dx, rd, bk⟩ a' W hl ⟨r, hr⟩ hI ⟨Bx, xk, xna, xnn, xnc, xra, xrn, xrc, xka, xkn, xkc, hBx, hBo, hv, hbox, rfl⟩ hlen
    dsimp only at hv
    subst hv
    have HI : Hid (InvN w.heap.size (w1.heap.size + 1 + 1 + 1 + 1) w1.heap.size w pre W) := hI
    obtain ⟨⟨u, gs, hu, hA⟩, hbel, hszW⟩ := hI
    have hxk : xk = cx.kind ∧ Rd lo hi W xna xnn xnc cx.name := by
      have := rd.below hbel hhi
      cases dx with
      | zero => exact this.elim
      | succ dx =>
        obtain ⟨na, nn, nc, ra, rn, rc, ka, kn, kc, hv, g1, g2, _⟩ := this
        simp only [Value.agg.injEq, Array.mk.injEq, List.cons.injEq, and_true, Value.slice.injEq, Value.int.injEq, true_and] at hv
        obtain ⟨h0, ⟨rfl, rfl, rfl⟩, _⟩ := hv
        exact ⟨h0, g1⟩
    obtain ⟨hxk, hrN⟩ := hxk
    have HrN : Hid (Rd lo hi W xna xnn xnc cx.name) := hrN
    have HShx : Hid (shapeB cx = true) := bk.self
    have hxn : xnn ≤ 1048576 := by rw [← hrN.len]; have := (shape_lenN HShx.out).1; omega
    have hpl : (pre.map ItemL.m).length ≤ 16 := by have := HN16.out; rw [List.length_map]; omega
    have HBox : Hid (BoxC W Bx (.int .i64 xk) (.slice xna xnn xnc) (.slice xra xrn xrc) (.slice xka xkn xkc)) := hbox
    have hBxl : Bx < W.heap.size := hbox.lt
    obtain ⟨p0, p1, p2, p3⟩ := hbox.cells
    have HBu0 : Hid (Boxed W w1.heap.size 33 u) := hu
    have HA0 : Hid (OwnW (w1.heap.size + 1 + 1 + 1 + 1) W u (rawN (pre.map ItemL.m)) gs) := hA
    have HBel : Hid (Below w.heap.size w W) := hbel
    have HBo0 : Hid (u.ownBlock ≠ some Bx) := by unfold Hid; rw [← own_boxed hu]; exact hBo
    have hhW : hi ≤ W.heap.size := by omega
    clear hA hbel hbox hr hlen hBo hu hrN
    by_cases hk2 : cx.kind = 2
    · have hkb : (xk == 2) = true := by rw [hxk, hk2]; rfl
      have hne0 := nm_ne HShx.out hk2
      have hck : cx.kind = 2 := hk2
      obtain ⟨n, hn⟩ : ∃ n, n = (rawN (pre.map ItemL.m)).length := ⟨_, rfl⟩
      have hn16 : n ≤ 16 := by have := rawN_len (pre.map ItemL.m); omega
      have HNn : Hid (n = (rawN (pre.map ItemL.m)).length) := hn
      obtain ⟨ua, ucap, hue⟩ : ∃ ua ucap, u = .slice ua n ucap := by
        obtain ⟨a, c, e, _⟩ := HA0.out.rss
        exact ⟨a, c, by rw [hn]; exact e⟩
      subst hue
      have HBu : Hid (Boxed W w1.heap.size 33 (.slice ua n ucap)) := HBu0.out
      have HA : Hid (OwnW (w1.heap.size + 1 + 1 + 1 + 1) W (.slice ua n ucap) (rawN (pre.map ItemL.m)) gs) := HA0.out
      have HBo : Hid ((Value.slice ua n ucap).ownBlock ≠ some Bx) := HBo0.out
      clear hn
      gi_wp2
      obtain ⟨V0, hV0⟩ : ∃ V, V = W.drew := ⟨_, rfl⟩
      have HV0 : Hid (V0 = W.drew) := hV0
      have HBV0 : Hid (Below W.heap.size W V0) := by unfold Hid; rw [hV0]; exact (Below.refl _ _).drew
      have hsV0 : W.heap.size ≤ V0.heap.size := HBV0.out.size
      have HS2 : Hid (W.cell? ⟨Bx, 0, none⟩ = some (.int .i64 xk) ∧ W.cell? ⟨Bx, 1, none⟩ = some (.slice xna xnn xnc) ∧ W.cell? ⟨Bx, 2, none⟩ = some (.slice xra xrn xrc) ∧ W.cell? ⟨Bx, 3, none⟩ = some (.slice xka xkn xkc)) := HBox.out.cells
      have hmx : Try.prog.follows .mixedOrders = true := by kernel_rfl
      clear hV0 p0 p1 p2 p3
      refine region_held (fun W => W.cell? ⟨Bx, 0, none⟩ = some (.int .i64 xk) ∧ W.cell? ⟨Bx, 1, none⟩ = some (.slice xna xnn xnc) ∧ W.cell? ⟨Bx, 2, none⟩ = some (.slice xra xrn xrc) ∧ W.cell? ⟨Bx, 3, none⟩ = some (.slice xka xkn xkc)) hmx (by kernel_rfl) (fun _ _ h => h) (S4.drew HS2.out) (fun hHeld => ?_)
      rw [← HV0.out] at hHeld ⊢
      refine wpAnyH_take (i := 1) (v := ?_) rfl (by kernel_rfl) (by kernel_rfl) (by kernel_rfl) (fun _ _ _ h => h) (Or.inl ⟨by rfl, ?_⟩) (by assumption) ?_
      rotate_left
      · intro w' hSw
        (try dsimp only at hSw)
        go_simp
        (try with_reducible rfl)
      (try simp only [Act.put])
      (try simp only [List.setIfInBounds_toArray])
      (try simp only [List.set_cons_succ])
      (try simp only [List.set_cons_zero])
      refine wpAnyH_take (i := 2) (v := ?_) rfl (by kernel_rfl) (by kernel_rfl) (by kernel_rfl) (fun _ _ _ h => h) (Or.inl ⟨by rfl, ?_⟩) (by assumption) ?_
      rotate_left
      · intro w' hSw
        (try dsimp only at hSw)
        go_simp
        (try with_reducible rfl)
      (try simp only [Act.put])
      (try simp only [List.setIfInBounds_toArray])
      (try simp only [List.set_cons_succ])
      (try simp only [List.set_cons_zero])
      refine wpAnyH_ready (rs := [0, 3]) (by kernel_rfl) (by simp) ?_
      refine AllReadyH.cons rfl (fun K hK => ?_) (AllReadyH.cons rfl (fun K hK => ?_) AllReadyH.nil)
      · skip
        have cLc := Boxed.cell (boxed_below HBu.out HBV0.out HBu.out.lt)
        go_simp
        clear cLc
        refine hK.out _ _ ?_ (fun hHeld => ?_)
        · (try dsimp only)
          exact S4.of (HBV0.out.block _ hBxl) HS2.out
        clear hK K
        (try simp only [Act.put])
        (try simp only [List.setIfInBounds_toArray])
        (try simp only [List.set_cons_succ])
        (try simp only [List.set_cons_zero])
        refine wpAnyH_ready (rs := [3]) (by kernel_rfl) (by simp) ?_
        refine AllReadyH.cons rfl (fun K hK => ?_) AllReadyH.nil
        · skip
          go_simp
          refine (clone_any xna xnn xnc cx.name V0 (lo := lo) (hi := hi) (HrN.out.below HBV0.out hhW) hxn).mono ?_
          rintro e wcx1 ⟨zv, rfl, hO, hb5⟩
          obtain ⟨gz, cz, hzv, hzg, hzr, hzc⟩ := ownB_rowG hO hne0
          obtain ⟨zl, hzl⟩ : ∃ zl, zl = cx.name.length := ⟨_, rfl⟩
          have HZl : Hid (zl = cx.name.length) := hzl
          rw [show wv cx.name (gz, cz) = .slice (some ⟨gz, 0, none⟩) cx.name.length cz from rfl, ← hzl] at hzv
          subst hzv
          have HBwcx1 : Hid (Below W.heap.size W wcx1) := HBV0.out.trans (hb5.mono hsV0)
          have HZwcx1 : Hid (RowG wcx1 gz cz cx.name ∧ W.heap.size ≤ gz ∧ cz ≤ 9223372036854775807) := ⟨hzr, Nat.le_trans hsV0 hzg, hzc⟩
          have hswcx1 : W.heap.size ≤ wcx1.heap.size := HBwcx1.out.size
          clear hO hb5 hzg hzr hzc hzl
          try dsimp only
          refine hK.out _ _ ?_ (fun hHeld => ?_)
          · (try dsimp only)
            exact S4.of (HBwcx1.out.block _ hBxl) HS2.out
          clear hK K
          (try simp only [Act.put])
          (try simp only [List.setIfInBounds_toArray])
          (try simp only [List.set_cons_succ])
          (try simp only [List.set_cons_zero])
          refine wpAnyH_ready (rs := [4]) (by kernel_rfl) (by simp) ?_
          refine AllReadyH.cons rfl (fun K hK => ?_) AllReadyH.nil
          · skip
            obtain ⟨wbx2, hWz⟩ : ∃ W, W = wcx1.alloc (.cells #[.slice (some ⟨gz, 0, none⟩) zl cz] 22) := ⟨_, rfl⟩
            have HWwbx2 : Hid (wbx2 = wcx1.alloc (.cells #[.slice (some ⟨gz, 0, none⟩) zl cz] 22)) := hWz
            have hbz : Below wcx1.heap.size wcx1 wbx2 := by rw [hWz]; exact (Below.refl _ _).alloc (Nat.le_refl _) _
            have HBwbx2 : Hid (Below W.heap.size W wbx2) := HBwcx1.out.trans (hbz.mono hswcx1)
            have hswbx2 : W.heap.size ≤ wbx2.heap.size := HBwbx2.out.size
            have HZwbx2 : Hid (RowG wbx2 gz cz cx.name ∧ W.heap.size ≤ gz ∧ cz ≤ 9223372036854775807) := ⟨HZwcx1.out.1.of_block (hbz.block _ HZwcx1.out.1.lt), HZwcx1.out.2⟩
            have HCwbx2 : Hid (∀ k v, [Value.slice (some ⟨gz, 0, none⟩) zl cz][k]? = some v → wbx2.cell? ((⟨wcx1.heap.size, 0, none⟩ : Addr).add k) = some v) := by unfold Hid; rw [hWz]; exact cell_one_new _ _ _
            clear hWz hbz
            go_simp
            rw [← HWwbx2.out]
            refine hK.out _ _ ?_ (fun hHeld => ?_)
            · (try dsimp only)
              exact S4.of (HBwbx2.out.block _ hBxl) HS2.out
            clear hK K
            (try simp only [Act.put])
            (try simp only [List.setIfInBounds_toArray])
            (try simp only [List.set_cons_succ])
            (try simp only [List.set_cons_zero])
            have HRowc : Hid (wbx2.ownsRow (w1.heap.size + 1 + 1 + 1 + 1) 22 1 (.slice ua n ucap) n (List.zipWith wv (rawN (pre.map ItemL.m)) gs)) := by have := (HA.out.below HBwbx2.out).row; rw [← HNn.out] at this; exact this
            refine wpAnyH_ready (rs := [5]) (by kernel_rfl) (by simp) ?_
            refine AllReadyH.cons rfl (fun K hK => ?_) AllReadyH.nil
            refine step_append_lies _ rfl (.tmp 17) (.tmp 21) 33 rfl (w1.heap.size + 1 + 1 + 1 + 1) 22 i0 (.slice none 0 0) 1 24 Try.undBSS hi0 hz0 hz1 hz2 rfl (by decide) (.slice ua n ucap) n (List.zipWith wv (rawN (pre.map ItemL.m)) gs) (by simp [Act.eval]) HRowc.out ⟨wcx1.heap.size, 0, none⟩ 1 1 [.slice (some ⟨gz, 0, none⟩) zl cz] (by simp [Act.eval]) rfl HCwbx2.out (by simp [Value.oneCell']) (by decide) (by unfold maxLen; omega) (by omega) (by omega) _ rfl ?_
            intro g cap w6 hown hgrow hat hlt6
            have HX : Hid (∀ F : World, F = w6.setCell ⟨w1.heap.size, 0, none⟩ (.slice (some ⟨g, 0, none⟩) (n + 1) cap) → KeepsOthers W F ∧ KpL w.heap.size (w1.heap.size + 1 + 1 + 1 + 1) w1.heap.size W F ∧ InvN w.heap.size (w1.heap.size + 1 + 1 + 1 + 1) w1.heap.size w (pre ++ [(⟨deep, .agg #[.int .i64 xk, .slice xna xnn xnc, .slice xra xrn xrc, .slice xka xkn xkc], cx, dx, rd, bk⟩ : ItemL lo hi w)]) F) := fun F hF => InvN.more (by omega) (by omega) HBu.out HA.out HBel.out (by omega) rfl hck HBwbx2.out HZwbx2.out.1 HZwbx2.out.2.1 HZwbx2.out.2.2 HrN.out.byte HNn.out (by have hq := hown; rw [HZl.out] at hq; exact hq) hgrow hat hlt6 hF
            have hgB : g ≠ Bx := by
              rcases hat with e | e
              · intro e2; subst e2; exact HBo.out e
              · omega
            have HS6 : Hid (w6.heap[Bx]? = W.heap[Bx]?) := (hgrow.block Bx (by omega) (fun e => HBo.out e.symm)).trans (HBwbx2.out.block Bx hBxl)
            have HBu6 : Hid (Boxed w6 w1.heap.size 33 (.slice ua n ucap)) := (boxed_below HBu.out HBwbx2.out HBu.out.lt).kept hgrow (fun e => by have := (HRowc.out.lt _ e.symm).1; omega)
            have cL6 := Boxed.cell HBu6.out
            have fL6 := Boxed.frozen HBu6.out
            have hBl : Bx ≠ w1.heap.size := by omega
            clear hown hgrow hat
            refine hK.out _ _ ?_ (fun hHeld => ?_)
            · (try dsimp only)
              exact S4.of HS6.out HS2.out
            clear hK K
            (try simp only [Act.put])
            (try simp only [List.setIfInBounds_toArray])
            (try simp only [List.set_cons_succ])
            (try simp only [List.set_cons_zero])
            refine wpAnyH_ready (rs := [6]) (by kernel_rfl) (by simp) ?_
            refine AllReadyH.cons rfl (fun K hK => ?_) AllReadyH.nil
            go_simp
            refine hK.out _ _ ?_ (fun hHeld => ?_)
            · (try dsimp only)
              exact S4.of ((Below.heap_setCell _ ⟨w1.heap.size, 0, none⟩ _ Bx hBl).trans HS6.out) HS2.out
            clear hK K
            (try simp only [Act.put])
            (try simp only [List.setIfInBounds_toArray])
            (try simp only [List.set_cons_succ])
            (try simp only [List.set_cons_zero])
            refine wpAnyH_done (by kernel_rfl) ?_ _
            obtain ⟨r1, r2, r3⟩ := HX.out _ rfl
            exact ⟨r1.from _, r2, r3⟩
      · skip
        go_simp
        refine (clone_any xna xnn xnc cx.name V0 (lo := lo) (hi := hi) (HrN.out.below HBV0.out hhW) hxn).mono ?_
        rintro e wcx3 ⟨zv, rfl, hO, hb5⟩
        obtain ⟨gz, cz, hzv, hzg, hzr, hzc⟩ := ownB_rowG hO hne0
        obtain ⟨zl, hzl⟩ : ∃ zl, zl = cx.name.length := ⟨_, rfl⟩
        have HZl : Hid (zl = cx.name.length) := hzl
        rw [show wv cx.name (gz, cz) = .slice (some ⟨gz, 0, none⟩) cx.name.length cz from rfl, ← hzl] at hzv
        subst hzv
        have HBwcx3 : Hid (Below W.heap.size W wcx3) := HBV0.out.trans (hb5.mono hsV0)
        have HZwcx3 : Hid (RowG wcx3 gz cz cx.name ∧ W.heap.size ≤ gz ∧ cz ≤ 9223372036854775807) := ⟨hzr, Nat.le_trans hsV0 hzg, hzc⟩
        have hswcx3 : W.heap.size ≤ wcx3.heap.size := HBwcx3.out.size
        clear hO hb5 hzg hzr hzc hzl
        try dsimp only
        refine hK.out _ _ ?_ (fun hHeld => ?_)
        · (try dsimp only)
          exact S4.of (HBwcx3.out.block _ hBxl) HS2.out
        clear hK K
        (try simp only [Act.put])
        (try simp only [List.setIfInBounds_toArray])
        (try simp only [List.set_cons_succ])
        (try simp only [List.set_cons_zero])
        refine wpAnyH_ready (rs := [0, 4]) (by kernel_rfl) (by simp) ?_
        refine AllReadyH.cons rfl (fun K hK => ?_) (AllReadyH.cons rfl (fun K hK => ?_) AllReadyH.nil)
        · skip
          have cLc := Boxed.cell (boxed_below HBu.out HBwcx3.out HBu.out.lt)
          go_simp
          clear cLc
          refine hK.out _ _ ?_ (fun hHeld => ?_)
          · (try dsimp only)
            exact S4.of (HBwcx3.out.block _ hBxl) HS2.out
          clear hK K
          (try simp only [Act.put])
          (try simp only [List.setIfInBounds_toArray])
          (try simp only [List.set_cons_succ])
          (try simp only [List.set_cons_zero])
          refine wpAnyH_ready (rs := [4]) (by kernel_rfl) (by simp) ?_
          refine AllReadyH.cons rfl (fun K hK => ?_) AllReadyH.nil
          · skip
            obtain ⟨wbx4, hWz⟩ : ∃ W, W = wcx3.alloc (.cells #[.slice (some ⟨gz, 0, none⟩) zl cz] 22) := ⟨_, rfl⟩
            have HWwbx4 : Hid (wbx4 = wcx3.alloc (.cells #[.slice (some ⟨gz, 0, none⟩) zl cz] 22)) := hWz
            have hbz : Below wcx3.heap.size wcx3 wbx4 := by rw [hWz]; exact (Below.refl _ _).alloc (Nat.le_refl _) _
            have HBwbx4 : Hid (Below W.heap.size W wbx4) := HBwcx3.out.trans (hbz.mono hswcx3)
            have hswbx4 : W.heap.size ≤ wbx4.heap.size := HBwbx4.out.size
            have HZwbx4 : Hid (RowG wbx4 gz cz cx.name ∧ W.heap.size ≤ gz ∧ cz ≤ 9223372036854775807) := ⟨HZwcx3.out.1.of_block (hbz.block _ HZwcx3.out.1.lt), HZwcx3.out.2⟩
            have HCwbx4 : Hid (∀ k v, [Value.slice (some ⟨gz, 0, none⟩) zl cz][k]? = some v → wbx4.cell? ((⟨wcx3.heap.size, 0, none⟩ : Addr).add k) = some v) := by unfold Hid; rw [hWz]; exact cell_one_new _ _ _
            clear hWz hbz
            go_simp
            rw [← HWwbx4.out]
            refine hK.out _ _ ?_ (fun hHeld => ?_)
            · (try dsimp only)
              exact S4.of (HBwbx4.out.block _ hBxl) HS2.out
            clear hK K
            (try simp only [Act.put])
            (try simp only [List.setIfInBounds_toArray])
            (try simp only [List.set_cons_succ])
            (try simp only [List.set_cons_zero])
            have HRowc : Hid (wbx4.ownsRow (w1.heap.size + 1 + 1 + 1 + 1) 22 1 (.slice ua n ucap) n (List.zipWith wv (rawN (pre.map ItemL.m)) gs)) := by have := (HA.out.below HBwbx4.out).row; rw [← HNn.out] at this; exact this
            refine wpAnyH_ready (rs := [5]) (by kernel_rfl) (by simp) ?_
            refine AllReadyH.cons rfl (fun K hK => ?_) AllReadyH.nil
            refine step_append_lies _ rfl (.tmp 17) (.tmp 21) 33 rfl (w1.heap.size + 1 + 1 + 1 + 1) 22 i0 (.slice none 0 0) 1 24 Try.undBSS hi0 hz0 hz1 hz2 rfl (by decide) (.slice ua n ucap) n (List.zipWith wv (rawN (pre.map ItemL.m)) gs) (by simp [Act.eval]) HRowc.out ⟨wcx3.heap.size, 0, none⟩ 1 1 [.slice (some ⟨gz, 0, none⟩) zl cz] (by simp [Act.eval]) rfl HCwbx4.out (by simp [Value.oneCell']) (by decide) (by unfold maxLen; omega) (by omega) (by omega) _ rfl ?_
            intro g cap w6 hown hgrow hat hlt6
            have HX : Hid (∀ F : World, F = w6.setCell ⟨w1.heap.size, 0, none⟩ (.slice (some ⟨g, 0, none⟩) (n + 1) cap) → KeepsOthers W F ∧ KpL w.heap.size (w1.heap.size + 1 + 1 + 1 + 1) w1.heap.size W F ∧ InvN w.heap.size (w1.heap.size + 1 + 1 + 1 + 1) w1.heap.size w (pre ++ [(⟨deep, .agg #[.int .i64 xk, .slice xna xnn xnc, .slice xra xrn xrc, .slice xka xkn xkc], cx, dx, rd, bk⟩ : ItemL lo hi w)]) F) := fun F hF => InvN.more (by omega) (by omega) HBu.out HA.out HBel.out (by omega) rfl hck HBwbx4.out HZwbx4.out.1 HZwbx4.out.2.1 HZwbx4.out.2.2 HrN.out.byte HNn.out (by have hq := hown; rw [HZl.out] at hq; exact hq) hgrow hat hlt6 hF
            have hgB : g ≠ Bx := by
              rcases hat with e | e
              · intro e2; subst e2; exact HBo.out e
              · omega
            have HS6 : Hid (w6.heap[Bx]? = W.heap[Bx]?) := (hgrow.block Bx (by omega) (fun e => HBo.out e.symm)).trans (HBwbx4.out.block Bx hBxl)
            have HBu6 : Hid (Boxed w6 w1.heap.size 33 (.slice ua n ucap)) := (boxed_below HBu.out HBwbx4.out HBu.out.lt).kept hgrow (fun e => by have := (HRowc.out.lt _ e.symm).1; omega)
            have cL6 := Boxed.cell HBu6.out
            have fL6 := Boxed.frozen HBu6.out
            have hBl : Bx ≠ w1.heap.size := by omega
            clear hown hgrow hat
            refine hK.out _ _ ?_ (fun hHeld => ?_)
            · (try dsimp only)
              exact S4.of HS6.out HS2.out
            clear hK K
            (try simp only [Act.put])
            (try simp only [List.setIfInBounds_toArray])
            (try simp only [List.set_cons_succ])
            (try simp only [List.set_cons_zero])
            refine wpAnyH_ready (rs := [6]) (by kernel_rfl) (by simp) ?_
            refine AllReadyH.cons rfl (fun K hK => ?_) AllReadyH.nil
            go_simp
            refine hK.out _ _ ?_ (fun hHeld => ?_)
            · (try dsimp only)
              exact S4.of ((Below.heap_setCell _ ⟨w1.heap.size, 0, none⟩ _ Bx hBl).trans HS6.out) HS2.out
            clear hK K
            (try simp only [Act.put])
            (try simp only [List.setIfInBounds_toArray])
            (try simp only [List.set_cons_succ])
            (try simp only [List.set_cons_zero])
            refine wpAnyH_done (by kernel_rfl) ?_ _
            obtain ⟨r1, r2, r3⟩ := HX.out _ rfl
            exact ⟨r1.from _, r2, r3⟩
        · skip
          obtain ⟨wbx5, hWz⟩ : ∃ W, W = wcx3.alloc (.cells #[.slice (some ⟨gz, 0, none⟩) zl cz] 22) := ⟨_, rfl⟩
          have HWwbx5 : Hid (wbx5 = wcx3.alloc (.cells #[.slice (some ⟨gz, 0, none⟩) zl cz] 22)) := hWz
          have hbz : Below wcx3.heap.size wcx3 wbx5 := by rw [hWz]; exact (Below.refl _ _).alloc (Nat.le_refl _) _
          have HBwbx5 : Hid (Below W.heap.size W wbx5) := HBwcx3.out.trans (hbz.mono hswcx3)
          have hswbx5 : W.heap.size ≤ wbx5.heap.size := HBwbx5.out.size
          have HZwbx5 : Hid (RowG wbx5 gz cz cx.name ∧ W.heap.size ≤ gz ∧ cz ≤ 9223372036854775807) := ⟨HZwcx3.out.1.of_block (hbz.block _ HZwcx3.out.1.lt), HZwcx3.out.2⟩
          have HCwbx5 : Hid (∀ k v, [Value.slice (some ⟨gz, 0, none⟩) zl cz][k]? = some v → wbx5.cell? ((⟨wcx3.heap.size, 0, none⟩ : Addr).add k) = some v) := by unfold Hid; rw [hWz]; exact cell_one_new _ _ _
          clear hWz hbz
          go_simp
          rw [← HWwbx5.out]
          refine hK.out _ _ ?_ (fun hHeld => ?_)
          · (try dsimp only)
            exact S4.of (HBwbx5.out.block _ hBxl) HS2.out
          clear hK K
          (try simp only [Act.put])
          (try simp only [List.setIfInBounds_toArray])
          (try simp only [List.set_cons_succ])
          (try simp only [List.set_cons_zero])
          refine wpAnyH_ready (rs := [0]) (by kernel_rfl) (by simp) ?_
          refine AllReadyH.cons rfl (fun K hK => ?_) AllReadyH.nil
          · skip
            have cLc := Boxed.cell (boxed_below HBu.out HBwbx5.out HBu.out.lt)
            go_simp
            clear cLc
            refine hK.out _ _ ?_ (fun hHeld => ?_)
            · (try dsimp only)
              exact S4.of (HBwbx5.out.block _ hBxl) HS2.out
            clear hK K
            (try simp only [Act.put])
            (try simp only [List.setIfInBounds_toArray])
            (try simp only [List.set_cons_succ])
            (try simp only [List.set_cons_zero])
            have HRowc : Hid (wbx5.ownsRow (w1.heap.size + 1 + 1 + 1 + 1) 22 1 (.slice ua n ucap) n (List.zipWith wv (rawN (pre.map ItemL.m)) gs)) := by have := (HA.out.below HBwbx5.out).row; rw [← HNn.out] at this; exact this
            refine wpAnyH_ready (rs := [5]) (by kernel_rfl) (by simp) ?_
            refine AllReadyH.cons rfl (fun K hK => ?_) AllReadyH.nil
            refine step_append_lies _ rfl (.tmp 17) (.tmp 21) 33 rfl (w1.heap.size + 1 + 1 + 1 + 1) 22 i0 (.slice none 0 0) 1 24 Try.undBSS hi0 hz0 hz1 hz2 rfl (by decide) (.slice ua n ucap) n (List.zipWith wv (rawN (pre.map ItemL.m)) gs) (by simp [Act.eval]) HRowc.out ⟨wcx3.heap.size, 0, none⟩ 1 1 [.slice (some ⟨gz, 0, none⟩) zl cz] (by simp [Act.eval]) rfl HCwbx5.out (by simp [Value.oneCell']) (by decide) (by unfold maxLen; omega) (by omega) (by omega) _ rfl ?_
            intro g cap w6 hown hgrow hat hlt6
            have HX : Hid (∀ F : World, F = w6.setCell ⟨w1.heap.size, 0, none⟩ (.slice (some ⟨g, 0, none⟩) (n + 1) cap) → KeepsOthers W F ∧ KpL w.heap.size (w1.heap.size + 1 + 1 + 1 + 1) w1.heap.size W F ∧ InvN w.heap.size (w1.heap.size + 1 + 1 + 1 + 1) w1.heap.size w (pre ++ [(⟨deep, .agg #[.int .i64 xk, .slice xna xnn xnc, .slice xra xrn xrc, .slice xka xkn xkc], cx, dx, rd, bk⟩ : ItemL lo hi w)]) F) := fun F hF => InvN.more (by omega) (by omega) HBu.out HA.out HBel.out (by omega) rfl hck HBwbx5.out HZwbx5.out.1 HZwbx5.out.2.1 HZwbx5.out.2.2 HrN.out.byte HNn.out (by have hq := hown; rw [HZl.out] at hq; exact hq) hgrow hat hlt6 hF
            have hgB : g ≠ Bx := by
              rcases hat with e | e
              · intro e2; subst e2; exact HBo.out e
              · omega
            have HS6 : Hid (w6.heap[Bx]? = W.heap[Bx]?) := (hgrow.block Bx (by omega) (fun e => HBo.out e.symm)).trans (HBwbx5.out.block Bx hBxl)
            have HBu6 : Hid (Boxed w6 w1.heap.size 33 (.slice ua n ucap)) := (boxed_below HBu.out HBwbx5.out HBu.out.lt).kept hgrow (fun e => by have := (HRowc.out.lt _ e.symm).1; omega)
            have cL6 := Boxed.cell HBu6.out
            have fL6 := Boxed.frozen HBu6.out
            have hBl : Bx ≠ w1.heap.size := by omega
            clear hown hgrow hat
            refine hK.out _ _ ?_ (fun hHeld => ?_)
            · (try dsimp only)
              exact S4.of HS6.out HS2.out
            clear hK K
            (try simp only [Act.put])
            (try simp only [List.setIfInBounds_toArray])
            (try simp only [List.set_cons_succ])
            (try simp only [List.set_cons_zero])
            refine wpAnyH_ready (rs := [6]) (by kernel_rfl) (by simp) ?_
            refine AllReadyH.cons rfl (fun K hK => ?_) AllReadyH.nil
            go_simp
            refine hK.out _ _ ?_ (fun hHeld => ?_)
            · (try dsimp only)
              exact S4.of ((Below.heap_setCell _ ⟨w1.heap.size, 0, none⟩ _ Bx hBl).trans HS6.out) HS2.out
            clear hK K
            (try simp only [Act.put])
            (try simp only [List.setIfInBounds_toArray])
            (try simp only [List.set_cons_succ])
            (try simp only [List.set_cons_zero])
            refine wpAnyH_done (by kernel_rfl) ?_ _
            obtain ⟨r1, r2, r3⟩ := HX.out _ rfl
            exact ⟨r1.from _, r2, r3⟩
    · have hkb : (xk == 2) = false := by rw [hxk]; simpa using hk2
      gi_wp2
      exact ⟨(keepsOthers_below (Below.refl _ _)).from _, KpL.of_below (Below.refl _ _) (by omega) (by omega), HI.out.stay hk2⟩
  case done =>
    rintro D ys W hD hS hI hK
    obtain ⟨⟨u, gs, hu, hA⟩, hbel, hszW⟩ := hI
    have HBel : Hid (Below w.heap.size w W) := hbel
    rw [hS] at hA
    have HA : Hid (OwnW (w1.heap.size + 1 + 1 + 1 + 1) W u (rawN (parts c 1)) gs) := hA
    have HBu : Hid (Boxed W w1.heap.size 33 u) := hu
    have cR := Boxed.cell hu
    have hlen : (rawN (parts c 1)).length ≤ 1000 := by have := rawN_len (parts c 1); have := HN16.out; omega
    clear hA hbel hu
    gi_wp2_with fail
    refine ⟨trivial, ?_⟩
    refine (callsIn_wide.2 (sortRow_any HA.out hlen)).mono ?_
    rintro e w5 ⟨rfl, L5, gs5, hO5, hl5, hm5, hp5, hb5, hk5⟩
    have HO5 : Hid (OwnW (w1.heap.size + 1 + 1 + 1 + 1) w5 u L5 gs5) := hO5
    have HM5 : Hid (∀ z, z ∈ L5 ↔ z ∈ rawN (parts c 1)) := hm5
    have HP5 : Hid (L5.Pairwise (fun a b => ltW b a = false)) := hp5
    have HB5 : Hid (Below (w1.heap.size + 1 + 1 + 1 + 1) W w5) := hb5
    have HK5 : Hid (w5.heap[D]? = some (.deferred (some []))) := hk5 D _ hK rfl
    have cR5 := Boxed.cell (boxed_below HBu.out hb5 (show w1.heap.size < w1.heap.size + 1 + 1 + 1 + 1 by omega))
    have hlen5 : L5.length ≤ 1000 := by omega
    clear hO5 hm5 hp5 hb5 hk5 hl5 cR
    gi_wp2_with fail
    refine ⟨trivial, ?_⟩
    refine (callsIn_wide.2 (compactRow_any HO5.out hlen5 HP5.out)).mono ?_
    rintro e w6 ⟨u6, L6, gs6, rfl, hO6, hs6, hm6, hb6, hk6⟩
    have HO6 : Hid (OwnW (w1.heap.size + 1 + 1 + 1 + 1) w6 u6 L6 gs6) := hO6
    have HE6 : Hid (L6 = ansCN c) := by
      unfold Hid
      rw [HE.out]
      exact names_eq HBy.out hs6 (fun z => (hm6 z).trans (HM5.out z))
    have HB6 : Hid (Below (w1.heap.size + 1 + 1 + 1 + 1) W w6) := HB5.out.trans hb6
    have hK6 : w6.heap[D]? = some (.deferred (some [])) := hk6 D _ HK5.out rfl
    have HBw : Hid (Below w.heap.size w w6) := HBel.out.trans (HB6.out.mono (by omega))
    clear hO6 hs6 hm6 hb6 hk6 cR5
    gi_wp2
    refine ⟨by simp, .inl ⟨_, _, rfl, run_takeDeferred hK6, ?_⟩⟩
    refine ⟨_, results_tmp rfl _ _ _, _, gs6, rfl, ?_, HBw.out.grown (grownBy_putObj' _ D _) HBw.out.size (fun k e => by cases e; omega)⟩
    rw [← HE6.out]
    refine (OwnW.keepC HO6.out (fun b o hb hc => ?_)).base (by omega)
    exact (World.putObj_heap_other (fun e => by subst e; rw [hK6] at hb; cases hb; cases hc)).trans hb
  case stop =>
    rintro D cd pre W hD hpre hI hK
    exact hI.elim

theorem implConNames_any {d : Nat} {v : Value} {c : CN} {w : World} {lo hi : Nat} (h : RdC lo hi w d v c) (hhi : hi ≤ w.heap.size) (hbk : c.bulk ≤ 1048576) :
    Calls Try.prog 11 #[v] w fun e w' => ∃ u gs, e = .returned u ∧ OwnW w.heap.size w' u (ansCN c) gs ∧ Below w.heap.size w w' := by
  cases hok : conOk c
  · exact implConNames_no h hhi hbk hok
  · exact implConNames_yes h hhi hbk hok

end Nm
end Go.Proofs.Ytedihcjhfkdkjaa
