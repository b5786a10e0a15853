/- impl.pushNot: for every concept whose parts are as their kinds ask it answers what 'nnfC' says, in memory of its own. -/
import Derived.Test.YtnmljalcndfjmaaGreatConClone2
import Derived.Test.YtnmljalcndfjmaaGreatNG10
namespace Go.Proofs.YtnmljalcndfjmaaGreat
open Go.RowKit

theorem Pre.last1 {W0 w2 : World} {k : Int} {rv : Value} {role : List Int} (h2 : OwnB W0.heap.size w2 rv role) (b2 : Below W0.heap.size W0 w2) :
    Pre W0.heap.size W0 (w2.alloc (.cells #[.int .i64 k, .slice none 0 0, rv, .slice none 0 0] 30)) (.pointer (some ⟨w2.heap.size, 0, none⟩)) k [] role w2.heap.size W0.heap.size (.slice none 0 0) rv :=
  Pre.last (OwnB.nil _ _) (Below.refl _ _) h2 b2

theorem Pre.set1 {W0 w2 : World} {k : Int} {rv : Value} {role : List Int} {ob : Nat} {z0 z1 z2 z3 : Value} (h2 : OwnB W0.heap.size w2 rv role) (b2 : Below W0.heap.size W0 w2) (hb : BoxC w2 ob z0 z1 z2 z3) (ho : W0.heap.size ≤ ob) :
    Pre W0.heap.size W0 ((((w2.setCell ⟨ob, 0, none⟩ (.int .i64 k)).setCell ⟨ob, 1, none⟩ (.slice none 0 0)).setCell ⟨ob, 2, none⟩ rv).setCell ⟨ob, 3, none⟩ (.slice none 0 0)) (.pointer (some ⟨ob, 0, none⟩)) k [] role ob W0.heap.size (.slice none 0 0) rv :=
  Pre.set (OwnB.nil _ _) (Below.refl _ _) h2 b2 hb ho

theorem Pre.kind {W0 W : World} {ov : Value} {k : Int} {name role : List Int} {ob B1 : Nat} {nv rv : Value} (h : Pre W0.heap.size W0 W ov k name role ob B1 nv rv) (k' : Int) : Pre W0.heap.size W0 (W.setCell ⟨ob, 0, none⟩ (.int .i64 k')) ov k' name role ob B1 nv rv := by
  have hs : (W.setCell ⟨ob, 0, none⟩ (.int .i64 k')).heap.size = W.heap.size := by simp
  exact ⟨h.ptr, h.box.set0 _, h.ge, h.bel.setCell h.ge _, h.nam.setCon h.box _, h.naml, h.rol.setCon h.box _, fun g hg => by rw [hs]; exact h.roll g hg, by rw [hs]; exact h.b1⟩

/-- What is answered, put into the result's own box. -/
theorem fin_post {w W0 W : World} {d : Nat} {c : CN} {L : List (Addr × IntKind)} {v0 v1 v2 v3 : Value} (hL : OwnC W0.heap.size W d (.agg #[v0, v1, v2, v3]) c L) (hs : W0.heap.size = w.heap.size + 2) (h0 : Below w.heap.size w W0) (h1 : Below W0.heap.size W0 W) (e : Value) (he : e = .agg #[v0, v1, v2, v3]) :
    ∃ v' L, Ending.returned e = .returned v' ∧ OwnC w.heap.size ((((W.setCell ⟨w.heap.size + 1, 0, none⟩ v0).setCell ⟨w.heap.size + 1, 1, none⟩ v1).setCell ⟨w.heap.size + 1, 2, none⟩ v2).setCell ⟨w.heap.size + 1, 3, none⟩ v3) d v' c L ∧
      Below w.heap.size w ((((W.setCell ⟨w.heap.size + 1, 0, none⟩ v0).setCell ⟨w.heap.size + 1, 1, none⟩ v1).setCell ⟨w.heap.size + 1, 2, none⟩ v2).setCell ⟨w.heap.size + 1, 3, none⟩ v3) := by
  subst he
  refine ⟨_, L, rfl, (hL.same (fun b hb1 hb2 => heap_set4 _ _ _ _ _ (by omega)) (by simp)).mono (by omega), ?_⟩
  exact (((((h0.trans (h1.mono (by omega))).setCell (by show w.heap.size ≤ w.heap.size + 1; omega) _).setCell (by show w.heap.size ≤ w.heap.size + 1; omega) _).setCell (by show w.heap.size ≤ w.heap.size + 1; omega) _).setCell (by show w.heap.size ≤ w.heap.size + 1; omega) _)

/-- A list of one. -/
theorem RowK.one {B : Nat} {W : World} {d : Nat} {c : CN} {L : List (Addr × IntKind)} {v0 v1 v2 v3 : Value} (h : OwnC B W d (.agg #[v0, v1, v2, v3]) c L) (base : Nat) (hb : base ≤ W.heap.size) :
    RowK base (W.alloc (.cells #[v0, v1, v2, v3] 30)) d (.slice (some ⟨W.heap.size, 0, none⟩) 1 1) [c] [L] [v0, v1, v2, v3] := by
  have hb3 : Below W.heap.size W (W.alloc (.cells #[v0, v1, v2, v3] 30)) := (Below.refl _ _).alloc (Nat.le_refl _) _
  refine ⟨rfl, ⟨rfl, .inr ⟨W.heap.size, 1, #[v0, v1, v2, v3], rfl, hb, World.alloc_heap_new W _, by simp, by unfold maxLen; simp, rfl, rfl⟩⟩, fun i hi => ?_, fun x hx => ?_, fun x hx => ?_⟩
  · simp only [List.length_cons, List.length_nil] at hi
    obtain rfl : i = 0 := by omega
    exact ⟨v0, v1, v2, v3, rfl, rfl, rfl, rfl, (h.below hb3).ow⟩
  · simp only [List.flatten_cons, List.flatten_nil, List.append_nil] at hx
    exact ((h.below hb3).bl x hx).2
  · simp only [List.flatten_cons, List.flatten_nil, List.append_nil] at hx
    have := (h.bl x hx).2
    simp only [Value.ownBlock, ne_eq, Option.some.injEq]
    omega

theorem SepK.one {B : Nat} {W : World} {d : Nat} {v : Value} {c : CN} {L : List (Addr × IntKind)} (h : OwnC B W d v c L) : SepK B W [L] := by
  refine ⟨?_, fun x hx => ?_, fun x hx => ?_⟩
  · simpa using h.nd
  · simp only [List.flatten_cons, List.flatten_nil, List.append_nil] at hx; exact h.fr x hx
  · simp only [List.flatten_cons, List.flatten_nil, List.append_nil] at hx; exact (h.bl x hx).1

theorem notOf {B : Nat} {W : World} {d : Nat} {c : CN} {L : List (Addr × IntKind)} {v0 v1 v2 v3 : Value} (h : OwnC B W d (.agg #[v0, v1, v2, v3]) c L) (hb : B ≤ W.heap.size) :
    ∃ L', OwnC B (W.alloc (.cells #[v0, v1, v2, v3] 30)) (d + 1) (.agg #[.int .i64 3, .slice none 0 0, .slice none 0 0, .slice (some ⟨W.heap.size, 0, none⟩) 1 1]) (.mk 3 [] [] [c]) L' := by
  have hb3 : Below W.heap.size W (W.alloc (.cells #[v0, v1, v2, v3] 30)) := (Below.refl _ _).alloc (Nat.le_refl _) _
  exact OwnC.make (B0 := B) (B1 := B) (B2 := B) (OwnB.nil _ _) (fun g hg => by simp [Value.ownBlock] at hg) (by simp) (OwnB.nil _ _) (fun g hg => by simp [Value.ownBlock] at hg) (by simp) (RowK.one h B hb) (SepK.one (h.below hb3)) (Nat.le_refl _) (Nat.le_refl _)

def PnP (d : Nat) : Prop := ∀ (v : Value) (c : CN) (neg : Bool) (w : World) (lo hi : Nat), RdC lo hi w d v c → hi ≤ w.heap.size → c.bulk ≤ 1048576 → wfC c = true →
  Calls Tryz.prog 33 #[v, .bool neg] w fun e w' => ∃ v' L, e = .returned v' ∧ OwnC w.heap.size w' (d + 1) v' (nnfC neg c) L ∧ Below w.heap.size w w'

set_option maxRecDepth 100000 in
set_option maxHeartbeats 2000000 in
theorem pnP_of {d : Nat} (H : ∀ d', d = d' + 1 → PnP d') : PnP d := by
  intro v c neg w lo hi h hhi hbk hwf
  have HR0 : Hid (RdC lo hi w d v c) := h
  cases d with
  | zero => exact h.elim
  | succ d =>
    have HH : Hid (PnP d) := H d rfl
    obtain ⟨na, nn, nc, ra, rn, rc, ka, kn, kc, rfl, hn, hr, hks⟩ := h
    have hbe := c.bulk_eq
    have hrl := hr.len
    have hrn : rn ≤ 1048576 := by omega
    rw [wfC_eq, Bool.and_eq_true] at hwf
    obtain ⟨hsh, hwk⟩ := hwf
    have hsh0 := hsh
    unfold shapeB at hsh0
    simp only [Bool.and_eq_true, decide_eq_true_eq] at hsh0
    have hkc := hsh0.2.2
    obtain ⟨k, hk⟩ : ∃ k, k = c.kind := ⟨_, rfl⟩
    have HK : Hid (k = c.kind) := hk
    rw [← hk] at hkc ⊢
    have HR0' : Hid (RdC lo hi w (d + 1) (.agg #[.int .i64 k, .slice na nn nc, .slice ra rn rc, .slice ka kn kc]) c) := by rw [hk]; exact HR0.out
    have HR : Hid (Rd lo hi w ra rn rc c.role) := hr
    have HKs : Hid (RdL (RdC lo hi w d) lo hi w ka kn kc c.kids) := hks
    have HBk : Hid (bulks c.kids ≤ 1048576) := by unfold Hid; omega
    have HBc : Hid (c.bulk ≤ 1048576) := hbk
    have HWk : Hid (wfL c.kids = true) := hwk
    have HKL : Hid (c.kids.length = kn) := hks.len
    have HKc : Hid ((c.kids.length : Int) = kidN k) := hkc
    obtain ⟨W0, hW0⟩ : ∃ W0, W0 = (w.alloc (.cells #[.int .i64 k, .slice na nn nc, .slice ra rn rc, .slice ka kn kc] 30)).alloc (.cells #[.int .i64 0, .slice none 0 0, .slice none 0 0, .slice none 0 0] 30) := ⟨_, rfl⟩
    have HW0 : Hid (W0 = (w.alloc (.cells #[.int .i64 k, .slice na nn nc, .slice ra rn rc, .slice ka kn kc] 30)).alloc (.cells #[.int .i64 0, .slice none 0 0, .slice none 0 0, .slice none 0 0] 30)) := hW0
    have hs0 : W0.heap.size = w.heap.size + 2 := by rw [hW0]; simp
    have HS0 : Hid (W0.heap.size = w.heap.size + 2) := hs0
    have hl0 : w.heap.size < W0.heap.size := by omega
    have hb0 : Below w.heap.size w W0 := by rw [hW0]; exact ((Below.refl _ _).alloc (Nat.le_refl _) _).alloc (by simp) _
    have hbx : BoxC W0 w.heap.size (.int .i64 k) (.slice na nn nc) (.slice ra rn rc) (.slice ka kn kc) := by rw [hW0]; exact (BoxC.new w _ _ _ _).below ((Below.refl _ _).alloc (Nat.le_refl _) _) (by simp)
    have hbr : BoxC W0 (w.heap.size + 1) (.int .i64 0) (.slice none 0 0) (.slice none 0 0) (.slice none 0 0) := by
      rw [hW0]
      have := BoxC.new (w.alloc (.cells #[.int .i64 k, .slice na nn nc, .slice ra rn rc, .slice ka kn kc] 30)) (.int .i64 0) (.slice none 0 0) (.slice none 0 0) (.slice none 0 0)
      rwa [World.size_alloc] at this
    have HB0 : Hid (Below w.heap.size w W0) := hb0
    have HBx : Hid (BoxC W0 w.heap.size (.int .i64 k) (.slice na nn nc) (.slice ra rn rc) (.slice ka kn kc)) := hbx
    have HBr : Hid (BoxC W0 (w.heap.size + 1) (.int .i64 0) (.slice none 0 0) (.slice none 0 0) (.slice none 0 0)) := hbr
    have HFin : Hid (∀ {W : World} {d : Nat} {c : CN} {L : List (Addr × IntKind)} {v0 v1 v2 v3 : Value}, OwnC W0.heap.size W d (.agg #[v0, v1, v2, v3]) c L → Below W0.heap.size W0 W → ∃ v' L, Ending.returned (.agg #[v0, v1, v2, v3]) = .returned v' ∧ OwnC w.heap.size ((((W.setCell ⟨w.heap.size + 1, 0, none⟩ v0).setCell ⟨w.heap.size + 1, 1, none⟩ v1).setCell ⟨w.heap.size + 1, 2, none⟩ v2).setCell ⟨w.heap.size + 1, 3, none⟩ v3) d v' c L ∧
      Below w.heap.size w ((((W.setCell ⟨w.heap.size + 1, 0, none⟩ v0).setCell ⟨w.heap.size + 1, 1, none⟩ v1).setCell ⟨w.heap.size + 1, 2, none⟩ v2).setCell ⟨w.heap.size + 1, 3, none⟩ v3)) := fun hL h1 => fin_post hL hs0 hb0 h1 _ rfl
    obtain ⟨b0, b1, b2, b3⟩ := hbx.cells
    clear hn hr hks H hbe hrl hb0 hW0 hbx hbr hs0 hsh hwk hsh0 hbk HR0
    by_cases k3 : k = 3
    · have hkn1 : kn = 1 := by
        have h1 := HKc.out
        rw [k3, show kidN 3 = 1 from rfl] at h1
        have := HKL.out
        omega
      have hR := HKs.out.below HB0.out hhi
      rcases hR.cells with hz | ⟨b, off, e1, _, hbhi, hc⟩
      · omega
      · subst e1
        obtain ⟨v0, v1, v2, v3, q0, q1, q2, q3, hrd⟩ := hc 0 (by omega)
        obtain ⟨yk, yna, ynn, ync, yra, yrn, yrc, yka, ykn, ykc, rfl, rfl, rfl, rfl⟩ := hrd.sh.form
        simp only [Nat.zero_mul, Nat.add_zero] at q0 q1 q2 q3
        have HKid : Hid (RdC lo hi W0 d (.agg #[.int .i64 yk, .slice yna ynn ync, .slice yra yrn yrc, .slice yka ykn ykc]) (c.kids.getD 0 CN.zero)) := hrd
        have HE : Hid (nnfC neg c = nnfC (!neg) (c.kids.getD 0 CN.zero)) := nnfC_not (by rw [← HK.out]; exact k3) (by rw [HKL.out]; omega)
        have HW : Hid (wfC (c.kids.getD 0 CN.zero) = true) := wfL_getD _ _ (by rw [HKL.out]; omega) HWk.out
        have HKb : Hid ((c.kids.getD 0 CN.zero).bulk ≤ 1048576) := by unfold Hid; have := getD_bulk_le c.kids 0 (by rw [HKL.out]; omega); have := HBk.out; omega
        have hh0 : hi ≤ W0.heap.size := Nat.le_trans hhi HB0.out.size
        clear hR hc hrd hk
        subst k3
        subst hkn1
        go_enter Tryz.func33, Tryz.ntmps33
        go_upto_region 2 with fail
        rw [← HW0.out]
        go_wp2_with fail
        refine (HH.out _ (c.kids.getD 0 CN.zero) (!neg) W0 lo hi HKid.out hh0 HKb.out HW.out).mono ?_
        rintro e w5 ⟨v5, L5, rfl, hO5, hb5⟩
        obtain ⟨zna, znn, znc, zra, zrn, zrc, zka, zkn, zkc, rfl⟩ := hO5.ow.agg
        obtain ⟨zk, hzk⟩ : ∃ zk, zk = (nnfC (!neg) (c.kids.getD 0 CN.zero)).kind := ⟨_, rfl⟩
        rw [← hzk] at hO5
        rw [← hzk]
        have HB5 : Hid (Below W0.heap.size W0 w5) := hb5
        have hbr5 := HBr.out.below hb5 (by have := HS0.out; omega)
        have HO5 : Hid (OwnC W0.heap.size w5 (d + 1 + 1) (.agg #[.int .i64 zk, .slice zna znn znc, .slice zra zrn zrc, .slice zka zkn zkc]) (nnfC neg c) L5) := by unfold Hid; rw [HE.out]; exact hO5.lift (by omega)
        obtain ⟨r0, r1, r2, r3⟩ := hbr5.cells
        have f0 := hbr5.frz 0
        have f1 := hbr5.frz 1
        have f2 := hbr5.frz 2
        have f3 := hbr5.frz 3
        obtain ⟨s0, s1, s2, s3⟩ := (hbr5.set4 (.int .i64 zk) (.slice zna znn znc) (.slice zra zrn zrc) (.slice zka zkn zkc)).cells
        clear hO5 hb5 hzk hbr5
        go_wp2_with fail
        refine bodyPost_ret (v := .agg #[.int .i64 zk, .slice zna znn znc, .slice zra zrn zrc, .slice zka zkn zkc]) (by simp [results, Tryz.results33, go_sem, s0, s1, s2, s3]) rfl ?_
        exact HFin.out HO5.out HB5.out
    · by_cases k2 : k = 2
      · have HRd : Hid (RdC lo hi W0 (d + 1) (.agg #[.int .i64 k, .slice na nn nc, .slice ra rn rc, .slice ka kn kc]) c) := HR0'.out.below HB0.out hhi
        have hh0 : hi ≤ W0.heap.size := Nat.le_trans hhi HB0.out.size
        have HE : Hid (∀ b, nnfC b c = if b = true then .mk 3 [] [] [c] else c) := fun b => nnfC_name (by rw [← HK.out]; exact k2)
        clear hk
        cases neg with
        | true =>
          subst k2
          go_enter Tryz.func33, Tryz.ntmps33
          go_upto_region 4 with fail
          rw [← HW0.out]
          go_wp2_with fail
          refine (clP_any (d + 1) _ c W0 lo hi HRd.out hh0 HBc.out).mono ?_
          rintro e w5 ⟨v5, L5, rfl, hO5, hb5⟩
          obtain ⟨zna, znn, znc, zra, zrn, zrc, zka, zkn, zkc, rfl⟩ := hO5.ow.agg
          obtain ⟨zk, hzk⟩ : ∃ zk, zk = c.kind := ⟨_, rfl⟩
          rw [← hzk] at hO5
          rw [← hzk]
          have HB5 : Hid (Below W0.heap.size W0 (w5.alloc (.cells #[.int .i64 zk, .slice zna znn znc, .slice zra zrn zrc, .slice zka zkn zkc] 30))) := hb5.alloc hb5.size _
          obtain ⟨L6, hO6⟩ := notOf hO5 hb5.size
          have HO6 : Hid (OwnC W0.heap.size (w5.alloc (.cells #[.int .i64 zk, .slice zna znn znc, .slice zra zrn zrc, .slice zka zkn zkc] 30)) (d + 1 + 1) (.agg #[.int .i64 3, .slice none 0 0, .slice none 0 0, .slice (some ⟨w5.heap.size, 0, none⟩) 1 1]) (nnfC true c) L6) := by unfold Hid; rw [HE.out true, if_pos rfl]; exact hO6
          have hbr5 : BoxC (w5.alloc (.cells #[.int .i64 zk, .slice zna znn znc, .slice zra zrn zrc, .slice zka zkn zkc] 30)) (w.heap.size + 1) (.int .i64 0) (.slice none 0 0) (.slice none 0 0) (.slice none 0 0) := HBr.out.below HB5.out (by have := HS0.out; omega)
          have hbr4 : BoxC w5 (w.heap.size + 1) (.int .i64 0) (.slice none 0 0) (.slice none 0 0) (.slice none 0 0) := HBr.out.below hb5 (by have := HS0.out; omega)
          have hlr : w.heap.size + 1 < w5.heap.size := hbr4.lt
          obtain ⟨t0, t1, t2, t3⟩ := hbr4.cells
          have HEq : Hid (∀ x0 x1 x2 x3 : Value, (((((w5.alloc (.cells #[.int .i64 zk, .slice zna znn znc, .slice zra zrn zrc, .slice zka zkn zkc] 30)).setCell ⟨w.heap.size + 1, 0, none⟩ x0).setCell ⟨w.heap.size + 1, 1, none⟩ x1).setCell ⟨w.heap.size + 1, 2, none⟩ x2).setCell ⟨w.heap.size + 1, 3, none⟩ x3) = ((((w5.setCell ⟨w.heap.size + 1, 0, none⟩ x0).setCell ⟨w.heap.size + 1, 1, none⟩ x1).setCell ⟨w.heap.size + 1, 2, none⟩ x2).setCell ⟨w.heap.size + 1, 3, none⟩ x3).alloc (.cells #[.int .i64 zk, .slice zna znn znc, .slice zra zrn zrc, .slice zka zkn zkc] 30)) := fun x0 x1 x2 x3 => by rw [World.setCell_alloc_past _ _ _ _ hlr, World.setCell_alloc_past _ _ _ _ (by simpa using hlr), World.setCell_alloc_past _ _ _ _ (by simpa using hlr), World.setCell_alloc_past _ _ _ _ (by simpa using hlr)]
          have g0 := hbr4.frz 0
          have g1 := hbr4.frz 1
          have g2 := hbr4.frz 2
          have g3 := hbr4.frz 3
          obtain ⟨r0, r1, r2, r3⟩ := hbr5.cells
          have f0 := hbr5.frz 0
          have f1 := hbr5.frz 1
          have f2 := hbr5.frz 2
          have f3 := hbr5.frz 3
          obtain ⟨s0, s1, s2, s3⟩ := (hbr5.set4 (.int .i64 3) (.slice none 0 0) (.slice none 0 0) (.slice (some ⟨w5.heap.size, 0, none⟩) 1 1)).cells
          rw [HEq.out] at s0 s1 s2 s3
          have HFi := HFin.out HO6.out HB5.out
          rw [HEq.out] at HFi
          have HFi : Hid _ := HFi
          clear hO5 hO6 hb5 hzk hbr5 hbr4
          go_wp2_with fail
          refine bodyPost_ret (v := .agg #[.int .i64 3, .slice none 0 0, .slice none 0 0, .slice (some ⟨w5.heap.size, 0, none⟩) 1 1]) (by simp [results, Tryz.results33, go_sem, s0, s1, s2, s3]) rfl ?_
          exact HFi.out
        | false =>
          subst k2
          go_enter Tryz.func33, Tryz.ntmps33
          go_upto_region 6 with fail
          rw [← HW0.out]
          go_wp2_with fail
          refine (clP_any (d + 1) _ c W0 lo hi HRd.out hh0 HBc.out).mono ?_
          rintro e w5 ⟨v5, L5, rfl, hO5, hb5⟩
          obtain ⟨zna, znn, znc, zra, zrn, zrc, zka, zkn, zkc, rfl⟩ := hO5.ow.agg
          obtain ⟨zk, hzk⟩ : ∃ zk, zk = c.kind := ⟨_, rfl⟩
          rw [← hzk] at hO5
          rw [← hzk]
          have HB5 : Hid (Below W0.heap.size W0 w5) := hb5
          have hbr5 := HBr.out.below hb5 (by have := HS0.out; omega)
          have HO5 : Hid (OwnC W0.heap.size w5 (d + 1 + 1) (.agg #[.int .i64 zk, .slice zna znn znc, .slice zra zrn zrc, .slice zka zkn zkc]) (nnfC false c) L5) := by unfold Hid; rw [HE.out false, if_neg (by decide)]; exact hO5.lift (by omega)
          obtain ⟨r0, r1, r2, r3⟩ := hbr5.cells
          have f0 := hbr5.frz 0
          have f1 := hbr5.frz 1
          have f2 := hbr5.frz 2
          have f3 := hbr5.frz 3
          obtain ⟨s0, s1, s2, s3⟩ := (hbr5.set4 (.int .i64 zk) (.slice zna znn znc) (.slice zra zrn zrc) (.slice zka zkn zkc)).cells
          clear hO5 hb5 hzk hbr5
          go_wp2_with fail
          refine bodyPost_ret (v := .agg #[.int .i64 zk, .slice zna znn znc, .slice zra zrn zrc, .slice zka zkn zkc]) (by simp [results, Tryz.results33, go_sem, s0, s1, s2, s3]) rfl ?_
          exact HFin.out HO5.out HB5.out
      · have HE : Hid (nnfC neg c = .mk (if neg = true then otherK k else k) [] c.role (c.kids.map (nnfC neg))) := by unfold Hid; rw [HK.out]; exact nnfC_else (by rw [← HK.out]; exact k3) (by rw [← HK.out]; exact k2)
        have hk3 : (k == 3) = false := by simpa using k3
        have hk2 : (k == 2) = false := by simpa using k2
        obtain ⟨k', hk'⟩ : ∃ k', k' = if neg = true then otherK k else k := ⟨_, rfl⟩
        have HK' : Hid (k' = if neg = true then otherK k else k) := hk'
        clear hk k3 k2 hk'
        go_enter Tryz.func33, Tryz.ntmps33
        go_upto_region 7 with fail
        rw [← HW0.out]
        go_cut [5] (fun ov W => ∃ ob B1 nv rv, Pre W0.heap.size W0 W ov k [] c.role ob B1 nv rv)
        case first =>
          first | go_region_held (fun W => W.cell? ⟨w.heap.size, 0, none⟩ = some (.int .i64 k) ∧ W.cell? ⟨w.heap.size, 1, none⟩ = some (.slice na nn nc) ∧ W.cell? ⟨w.heap.size, 2, none⟩ = some (.slice ra rn rc)) (first | with_reducible exact HS2.out | with_reducible exact S3.alloc HS2.out hl2 | with_reducible exact S3.alloc (W := W0.drew) ⟨b0, b1, b2⟩ hl0 | with_reducible exact S3.set4 HS2.out hl0 | with_reducible exact S3.drew ⟨b0, b1, b2⟩ | with_reducible exact S3.drew (S3.alloc ⟨b0, b1, b2⟩ hl0)) (first
            | (go_at_call 81; refine (cloneC_any ra rn rc c.role _ (lo := lo) (hi := hi) ?_ hrn).mono ?_; (first | exact HR.out.below HB0.out.drew hhi | exact HR.out.below (HB0.out.drew.alloc HB0.out.size _) hhi); rintro e w2 ⟨rv, rfl, hO2, hb2⟩; obtain ⟨xra, xrn, xrc, rfl⟩ := hO2.isSlice; have HO2 : Hid (OwnB W0.heap.size w2 (.slice xra xrn xrc) c.role) := (by first | exact hO2 | exact OwnB.mono hO2 (by simp)); have H2 : Hid (Below W0.heap.size W0 w2) := (by first | exact (Below.refl _ _).drew.trans hb2 | exact ((Below.refl _ _).drew.alloc (Nat.le_refl _) _).trans (hb2.mono (by simp))); (first | (have HOb2 : Hid (BoxC w2 W0.heap.size (.int .i64 0) (.slice none 0 0) (.slice none 0 0) (.slice none 0 0)) := ((BoxC.new W0.drew (.int .i64 0) (.slice none 0 0) (.slice none 0 0) (.slice none 0 0)).below hb2 (by simp)); obtain ⟨o0, o1, o2, o3⟩ := HOb2.out.cells; have of0 := HOb2.out.frz 0; have of1 := HOb2.out.frz 1; have of2 := HOb2.out.frz 2; have of3 := HOb2.out.frz 3) | skip); have HS2 : Hid (w2.cell? ⟨w.heap.size, 0, none⟩ = some (.int .i64 k) ∧ w2.cell? ⟨w.heap.size, 1, none⟩ = some (.slice na nn nc) ∧ w2.cell? ⟨w.heap.size, 2, none⟩ = some (.slice ra rn rc)) := ⟨(HBx.out.below H2.out hl0).cells.1, (HBx.out.below H2.out hl0).cells.2.1, (HBx.out.below H2.out hl0).cells.2.2.1⟩; have hl2 : w.heap.size < w2.heap.size := Nat.lt_of_lt_of_le hl0 H2.out.size; clear hO2 hb2)) | fail
          · go_wp2_with fail
            go_meet
            case rel => exact ⟨_, _, _, _, Pre.last1 HO2.out H2.out⟩
          · go_wp2_with fail
            go_meet
            case rel => exact ⟨_, _, _, _, Pre.set1 HO2.out H2.out HOb2.out (Nat.le_refl _)⟩
        case rest =>
          obtain ⟨ob, B1, nv, rv, hP⟩ := hcut
          obtain ⟨xna, xnn, xnc, rfl⟩ := hP.nam.isSlice
          obtain ⟨xra, xrn, xrc, rfl⟩ := hP.rol.isSlice
          obtain ⟨Wd, hWd⟩ : ∃ W, W = wc := ⟨_, rfl⟩
          subst hWd
          have hpt := hP.ptr
          subst hpt
          have HP : Hid (Pre W0.heap.size W0 Wd (.pointer (some ⟨ob, 0, none⟩)) k [] c.role ob B1 (.slice xna xnn xnc) (.slice xra xrn xrc)) := hP
          have hbc : BoxC Wd w.heap.size (.int .i64 k) (.slice na nn nc) (.slice ra rn rc) (.slice ka kn kc) := HBx.out.below hP.bel hl0
          clear b0 b1 b2 b3
          obtain ⟨b0, b1, b2, b3⟩ := hbc.cells
          obtain ⟨o0, o1, o2, o3⟩ := hP.box.cells
          have of0 := hP.box.frz 0
          clear hP hbc
          go_upto_if 42 with fail
          go_cut [] (fun W => Pre W0.heap.size W0 W (.pointer (some ⟨ob, 0, none⟩)) k' [] c.role ob B1 (.slice xna xnn xnc) (.slice xra xrn xrc))
          case first =>
            cases neg with
            | false =>
              have HKe : Hid (k' = k) := by unfold Hid; rw [HK'.out]; rfl
              go_wp2_with fail
              go_meet
              case rel => rw [HKe.out]; exact HP.out
            | true =>
              have HKe : Hid (k' = otherK k) := by unfold Hid; rw [HK'.out]; rfl
              go_wp2_with (go_at_call 82; refine (otherKind_any _ _).mono ?_; rintro e w' ⟨rfl, hw⟩; rw [hw, ← HKe.out]; clear hw)
              go_meet
              case rel => exact HP.out.kind _
          case rest =>
            obtain ⟨Wc, hWc⟩ : ∃ W, W = wc := ⟨_, rfl⟩
            subst hWc
            have hP := hcut
            have HSt : Hid (Stat W0 Wc.heap.size B1 ob (.slice xna xnn xnc) (.slice xra xrn xrc)) := ⟨hP.box.lt, hP.ge, hP.naml, hP.roll, hP.b1.2, hP.b1.1⟩
            have HI0 : Hid (Inv W0 Wc.heap.size B1 ob (d + 1) k' (.slice xna xnn xnc) (.slice xra xrn xrc) [] c.role Wc (.slice none 0 0) [] [] []) := ⟨RowK.nil _ _ _, SepK.nil _ _, hP.box, hP.nam, hP.rol, hP.bel, Nat.le_refl _⟩
            have hbc : BoxC Wc w.heap.size (.int .i64 k) (.slice na nn nc) (.slice ra rn rc) (.slice ka kn kc) := HBx.out.below hP.bel hl0
            clear b0 b1 b2 b3 o0 o1 o2 o3 of0 HP hcut
            obtain ⟨b0, b1, b2, b3⟩ := hbc.cells
            have hknb : kn ≤ 1048576 := by have := HBk.out; have := length_le_bulks c.kids; have := HKL.out; omega
            have hobl := HSt.out.o1
            obtain ⟨i0, hi0, hz0, hz1, hz2⟩ := info_parts Tryz.infoCon4
            clear hP hbc
            go_wp2_with fail
            go_loopw [50] (fun i wr => ∃ (j : Nat) (kv : Value) (Ls : List (List (Addr × IntKind))) (xs : List Value), j ≤ kn ∧ i = .int .i64 j ∧ Inv W0 Wc.heap.size B1 ob (d + 1) k' (.slice xna xnn xnc) (.slice xra xrn xrc) [] c.role wr kv ((c.kids.take j).map (nnfC neg)) Ls xs) (fun i _ => kn - (intOf i).toNat)
            case atStart => exact ⟨0, .slice none 0 0, [], [], Nat.zero_le _, rfl, HI0.out⟩
            case round =>
              obtain ⟨j, kv, Ls, xs, hj, rfl, hinv⟩ := hrel
              have HI : Hid (Inv W0 Wc.heap.size B1 ob (d + 1) k' (.slice xna xnn xnc) (.slice xra xrn xrc) [] c.role wr kv ((c.kids.take j).map (nnfC neg)) Ls xs) := hinv
              have hszr : Wc.heap.size ≤ wr.heap.size := hinv.sz
              by_cases hlt : j < kn
              · have hjl : j < c.kids.length := by rw [HKL.out]; exact hlt
                have hji : (j : Int) < (kn : Int) := by omega
                have HTs : Hid ((c.kids.take (j + 1)).map (nnfC neg) = (c.kids.take j).map (nnfC neg) ++ [nnfC neg (c.kids.getD j CN.zero)]) := by unfold Hid; rw [take_succ_getD _ CN.zero _ hjl, List.map_append]; rfl
                have HTl : Hid (((c.kids.take j).map (nnfC neg)).length = j) := by unfold Hid; rw [List.length_map, List.length_take]; omega
                have HKb : Hid ((c.kids.getD j CN.zero).bulk ≤ 1048576) := by unfold Hid; have := getD_bulk_le c.kids j hjl; have := HBk.out; omega
                have HWf : Hid (wfC (c.kids.getD j CN.zero) = true) := wfL_getD _ _ hjl HWk.out
                have hBwr : Below w.heap.size w wr := HB0.out.trans (hinv.bel.mono (Nat.le_of_lt hl0))
                have hR := HKs.out.below hBwr hhi
                rcases hR.cells with hz | ⟨b, off, e1, _, hbhi, hc⟩
                · omega
                · subst e1
                  obtain ⟨v0, v1, v2, v3, q0, q1, q2, q3, hrd⟩ := hc j hlt
                  obtain ⟨yk, yna, ynn, ync, yra, yrn, yrc, yka, ykn, ykc, rfl, rfl, rfl, rfl⟩ := hrd.sh.form
                  have hblt : b < wr.heap.size := Nat.lt_of_lt_of_le hbhi (Nat.le_trans hhi hBwr.size)
                  obtain ⟨W4, hW4⟩ : ∃ W4, W4 = wr.alloc (.cells #[.int .i64 yk, .slice yna ynn ync, .slice yra yrn yrc, .slice yka ykn ykc] 30) := ⟨_, rfl⟩
                  have HW4 : Hid (W4 = wr.alloc (.cells #[.int .i64 yk, .slice yna ynn ync, .slice yra yrn yrc, .slice yka ykn ykc] 30)) := hW4
                  have hb4 : Below wr.heap.size wr W4 := by rw [hW4]; exact (Below.refl _ _).alloc (Nat.le_refl _) _
                  have hbk4 : BoxC W4 wr.heap.size (.int .i64 yk) (.slice yna ynn ync) (.slice yra yrn yrc) (.slice yka ykn ykc) := by rw [hW4]; exact BoxC.new wr _ _ _ _
                  have HKid : Hid (RdC lo hi W4.drew d (.agg #[.int .i64 yk, .slice yna ynn ync, .slice yra yrn yrc, .slice yka ykn ykc]) (c.kids.getD j CN.zero)) := (hrd.below hb4 (Nat.le_trans hhi hBwr.size)).below (Below.refl W4.heap.size W4).drew (Nat.le_trans (Nat.le_trans hhi hBwr.size) hb4.size)
                  have HI4 : Hid (Inv W0 Wc.heap.size B1 ob (d + 1) k' (.slice xna xnn xnc) (.slice xra xrn xrc) [] c.role W4 kv ((c.kids.take j).map (nnfC neg)) Ls xs) := hinv.below hb4
                  have hh4 : hi ≤ W4.drew.heap.size := Nat.le_trans (Nat.le_trans hhi hBwr.size) hb4.size
                  obtain ⟨p0, p1, p2, p3⟩ := hbk4.cells
                  obtain ⟨o0, o1, o2, o3⟩ := HI4.out.box.cells
                  have hl4 : wr.heap.size < W4.heap.size := hbk4.lt
                  clear hR hc hrd hinv hb4 hW4 hbk4 hBwr
                  go_upto_region 13 with fail
                  rw [← HW4.out]
                  first | go_region_law (first
                    | (refine step_append_lies _ rfl (.tmp 55) (.tmp 59) 28 rfl Wc.heap.size 30 i0 (.agg #[.int .i64 0, .slice none 0 0, .slice none 0 0, .slice none 0 0]) 4 80 Tryz.underlying28 hi0 hz0 hz1 hz2 rfl (by decide) kv j xs (by simp [Act.eval]) HRow5.out ⟨w5.heap.size, 0, none⟩ 1 1 [.int .i64 zk, .slice zna znn znc, .slice zra zrn zrc, .slice zka zkn zkc] (by simp [Act.eval]) rfl (new4 _ _ _ _ _ _ _ rfl) (one4 _ _ _ _ _ _ _ _ _ _) (by decide) (by unfold maxLen; omega) (by omega) hsz5 _ rfl ?_; intro g cap w6 hown hgrow hat hlt6; have HA : Hid (BoxC w6 ob (.int .i64 k') (.slice xna xnn xnc) (.slice xra xrn xrc) kv ∧ Inv W0 Wc.heap.size B1 ob (d + 1) k' (.slice xna xnn xnc) (.slice xra xrn xrc) [] c.role (w6.setCell ⟨ob, 3, none⟩ (.slice (some ⟨g, 0, none⟩) (j + 1) cap)) (.slice (some ⟨g, 0, none⟩) (j + 1) cap) ((c.kids.take j).map (nnfC neg) ++ [nnfC neg (c.kids.getD j CN.zero)]) (Ls ++ [L5]) (xs ++ [.int .i64 zk, .slice zna znn znc, .slice zra zrn zrc, .slice zka zkn zkc])) := Inv.app HSt.out HI5.out HO5.out hB5 HLB.out HkB.out (by rw [HTl.out]) hown hgrow hat; obtain ⟨_, _, _, o36⟩ := HA.out.1.cells; have f36 := HA.out.1.frz 3; clear hown hgrow hat)
                    | (go_simp; refine (HH.out _ (c.kids.getD j CN.zero) neg _ lo hi HKid.out hh4 HKb.out HWf.out).mono ?_; rintro e w5 ⟨v5, L5, rfl, hO5, hb5⟩; obtain ⟨zna, znn, znc, zra, zrn, zrc, zka, zkn, zkc, rfl⟩ := hO5.ow.agg; obtain ⟨zk, hzk⟩ : ∃ zk, zk = (nnfC neg (c.kids.getD j CN.zero)).kind := ⟨_, rfl⟩; rw [← hzk] at hO5; rw [← hzk]; have HB5 : Hid (Below W4.heap.size W4 w5) := (Below.refl _ _).drew.trans hb5; have HI5a : Hid (Inv W0 Wc.heap.size B1 ob (d + 1) k' (.slice xna xnn xnc) (.slice xra xrn xrc) [] c.role w5 kv ((c.kids.take j).map (nnfC neg)) Ls xs) := HI4.out.below HB5.out; have HB5b : Hid (Below w5.heap.size w5 (w5.alloc (.cells #[.int .i64 zk, .slice zna znn znc, .slice zra zrn zrc, .slice zka zkn zkc] 30))) := (Below.refl _ _).alloc (Nat.le_refl _) _; have HI5 : Hid (Inv W0 Wc.heap.size B1 ob (d + 1) k' (.slice xna xnn xnc) (.slice xra xrn xrc) [] c.role (w5.alloc (.cells #[.int .i64 zk, .slice zna znn znc, .slice zra zrn zrc, .slice zka zkn zkc] 30)) kv ((c.kids.take j).map (nnfC neg)) Ls xs) := HI5a.out.below HB5b.out; have HO5 : Hid (OwnC W4.heap.size (w5.alloc (.cells #[.int .i64 zk, .slice zna znn znc, .slice zra zrn zrc, .slice zka zkn zkc] 30)) (d + 1) (.agg #[.int .i64 zk, .slice zna znn znc, .slice zra zrn zrc, .slice zka zkn zkc]) (nnfC neg (c.kids.getD j CN.zero)) L5) := OwnC.below hO5 HB5b.out; have HRow5 : Hid ((w5.alloc (.cells #[.int .i64 zk, .slice zna znn znc, .slice zra zrn zrc, .slice zka zkn zkc] 30)).ownsRow Wc.heap.size 30 4 kv j xs) := (by have := HI5.out.row.row; rw [HTl.out] at this; exact this); have hB5 : Wc.heap.size ≤ W4.heap.size := HI4.out.sz; have HLB : Hid (∀ x ∈ Ls.flatten, x.1.block < W4.heap.size) := HI4.out.row.lt; have HkB : Hid (∀ g, kv.ownBlock = some g → g < W4.heap.size) := (fun g hg => (HI4.out.row.row.lt g hg).2); have hsz5 : Wc.heap.size ≤ (w5.alloc (.cells #[.int .i64 zk, .slice zna znn znc, .slice zra zrn zrc, .slice zka zkn zkc] 30)).heap.size := HI5.out.sz; obtain ⟨_, _, _, o35⟩ := HI5a.out.box.cells; have hlo5 : ob < w5.heap.size := HI5a.out.box.lt; clear hO5 hb5 hzk)) | fail
                  all_goals
                    go_wp2_with fail
                    go_roundw
                    case rel => exact ⟨j + 1, _, _, _, by omega, by go_num, by rw [HTs.out]; exact HA.out.2⟩
                    case measure => simp [intOf]; omega
              · have HTk : Hid (c.kids.take j = c.kids) := List.take_of_length_le (by rw [HKL.out]; omega)
                have hbr : BoxC wr (w.heap.size + 1) (.int .i64 0) (.slice none 0 0) (.slice none 0 0) (.slice none 0 0) := HBr.out.below hinv.bel (by have := HS0.out; omega)
                obtain ⟨r0, r1, r2, r3⟩ := hbr.cells
                have f0 := hbr.frz 0
                have f1 := hbr.frz 1
                have f2 := hbr.frz 2
                have f3 := hbr.frz 3
                obtain ⟨o0, o1, o2, o3⟩ := hinv.box.cells
                obtain ⟨kka, kkn, kkc, rfl⟩ := hinv.row.isSlice
                obtain ⟨L, hL⟩ := OwnC.make (kind := k') hinv.nam HSt.out.nl (by simp) hinv.rol HSt.out.rl HR.out.byte hinv.row hinv.sep HSt.out.b0 HSt.out.b1
                have HL : Hid (OwnC W0.heap.size wr (d + 1 + 1) (.agg #[.int .i64 k', .slice xna xnn xnc, .slice xra xrn xrc, .slice kka kkn kkc]) (nnfC neg c) L) := by
                  unfold Hid
                  rw [HE.out, ← HK'.out]
                  rw [HTk.out] at hL
                  exact hL
                have HBe : Hid (Below W0.heap.size W0 wr) := hinv.bel
                obtain ⟨s0, s1, s2, s3⟩ := (hbr.set4 (.int .i64 k') (.slice xna xnn xnc) (.slice xra xrn xrc) (.slice kka kkn kkc)).cells
                clear hL hinv hbr
                go_wp2_with fail
                refine bodyPost_ret (v := .agg #[.int .i64 k', .slice xna xnn xnc, .slice xra xrn xrc, .slice kka kkn kkc]) (by simp [results, Tryz.results33, go_sem, s0, s1, s2, s3]) rfl ?_
                exact HFin.out HL.out HBe.out

theorem pnP_any : ∀ d, PnP d
  | 0 => pnP_of (fun d' h => by omega)
  | d + 1 => pnP_of (fun d' h => by obtain rfl : d = d' := (by omega); exact pnP_any d)

end Go.Proofs.YtnmljalcndfjmaaGreat
