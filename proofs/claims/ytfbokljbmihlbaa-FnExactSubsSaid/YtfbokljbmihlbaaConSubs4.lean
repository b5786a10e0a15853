/- spec.Subs: all parts, each once, from the outside on, in memory of their own. -/
import Derived.Test.YtfbokljbmihlbaaConSubs3
import Derived.Test.YtfbokljbmihlbaaConOwnS
import Derived.Test.YtfbokljbmihlbaaConSpec2
import Derived.Test.YtfbokljbmihlbaaConOkImpl
import Derived.Test.YtfbokljbmihlbaaConTo
namespace Go.Proofs.Ytfbokljbmihlbaa
open Go.RowKit

/-- All parts, each once; none: it may not be. -/
def subsN (c : CN) : List CN := if conOk c = true then putsN [] (parts c 1) else []

theorem subsApp {B d : Nat} {w1 wr W w6 : World} {u v' : Value} {cs : List CN} {Ls : List (List (Addr × IntKind))} {xs : List Value} {c : CN} {L : List (Addr × IntKind)} {v0 v1 v2 v3 : Value} (hB : B ≤ wr.heap.size) (hbel : Below B w1 wr) (hrow : RowK B wr d u cs Ls xs) (hge : ∀ x ∈ Ls.flatten, B ≤ x.1.block)
    (hWr : Below wr.heap.size wr W) (hO : OwC W d (.agg #[v0, v1, v2, v3]) c L) (hL : ∀ x ∈ L, wr.heap.size ≤ x.1.block ∧ x.1.block < W.heap.size)
    (hown : w6.ownsRow B 38 4 v' (cs.length + 1) (xs ++ [v0, v1, v2, v3])) (hgrow : W.grownBy w6 u.ownBlock) (hat : v'.ownBlock = u.ownBlock ∨ v'.ownBlock = some W.heap.size) :
    RowK B w6 d v' (cs ++ [c]) (Ls ++ [L]) (xs ++ [v0, v1, v2, v3]) ∧ (∀ x ∈ (Ls ++ [L]).flatten, B ≤ x.1.block) ∧ Below B w1 w6 ∧ B ≤ w6.heap.size := by
  have hlt := hrow.row.lt
  have hbW : Below B w1 W := hbel.trans (hWr.mono hB)
  have hs1 := hWr.size
  have hs2 := hgrow.size
  refine ⟨(hrow.below hWr).snoc hO (fun x hx => (hL x hx).2) (fun x hx e => by have := (hL x hx).1; have := (hlt _ e).2; omega) hown hgrow hat, fun x hx => ?_, ⟨hgrow.os.trans hbW.os, hgrow.tape.trans hbW.tape, hgrow.output.trans hbW.output, Nat.le_trans hbW.size hs2, fun b hb => (hgrow.block b (by omega) (fun e => by have := (hlt _ e.symm).1; omega)).trans (hbW.block b hb)⟩, by omega⟩
  simp only [List.flatten_append, List.mem_append, List.flatten_cons, List.flatten_nil, List.append_nil] at hx
  rcases hx with hx | hx
  · exact hge x hx
  · have := (hL x hx).1; omega

set_option maxRecDepth 100000 in
set_option maxHeartbeats 4000000 in
theorem specSubs_any {d : Nat} {v : Value} {c : CN} {w : World} {lo hi : Nat} (h : RdC lo hi w d v c) (hhi : hi ≤ w.heap.size) :
    Calls Try.prog 18 #[v] w fun e w' => ∃ B u Ls xs, e = .returned u ∧ w.heap.size ≤ B ∧ RowK B w' d u (subsN c) Ls xs ∧ (∀ x ∈ Ls.flatten, B ≤ x.1.block) ∧ Below w.heap.size w w' := by
  have HRd : Hid (RdC lo hi w d v c) := h
  obtain ⟨k, na, nn, nc, ra, rn, rc, ka, kn, kc, rfl⟩ := h.shape
  obtain ⟨W0, hW0⟩ : ∃ W0, W0 = w.alloc (.cells #[.int .i64 k, .slice na nn nc, .slice ra rn rc, .slice ka kn kc] 38) := ⟨_, rfl⟩
  have HW0 : Hid (W0 = w.alloc (.cells #[.int .i64 k, .slice na nn nc, .slice ra rn rc, .slice ka kn kc] 38)) := hW0
  have hb0 : Below w.heap.size w W0 := by rw [hW0]; exact (Below.refl _ _).alloc (Nat.le_refl _) _
  have HB0 : Hid (Below w.heap.size w W0) := hb0
  have hl0 : w.heap.size < W0.heap.size := by rw [hW0]; simp
  have hbx : BoxC W0 w.heap.size (.int .i64 k) (.slice na nn nc) (.slice ra rn rc) (.slice ka kn kc) := by rw [hW0]; exact BoxC.new w _ _ _ _
  have HBx : Hid (BoxC W0 w.heap.size (.int .i64 k) (.slice na nn nc) (.slice ra rn rc) (.slice ka kn kc)) := hbx
  have HR0 : Hid (RdC lo hi W0 d (.agg #[.int .i64 k, .slice na nn nc, .slice ra rn rc, .slice ka kn kc]) c) := HRd.out.below hb0 hhi
  obtain ⟨ok, hok⟩ : ∃ ok, ok = conOk c := ⟨_, rfl⟩
  have HOk : Hid (ok = conOk c) := hok
  have hh0 : hi ≤ W0.heap.size := by omega
  obtain ⟨b0, b1, b2, b3⟩ := hbx.cells
  clear hb0 hW0 hbx h hok
  go_enter Try.func18, Try.ntmps18
  go_upto_region 2 with fail
  rw [← HW0.out]
  go_wp2_with fail
  refine (specConOk_any HR0.out hh0).mono ?_
  rintro e w1 ⟨rfl, hb1⟩
  rw [← HOk.out]
  have HB1 : Hid (Below W0.heap.size W0 w1) := hb1
  have HBx1 : Hid (BoxC w1 w.heap.size (.int .i64 k) (.slice na nn nc) (.slice ra rn rc) (.slice ka kn kc)) := HBx.out.below hb1 hl0
  have HBw1 : Hid (Below w.heap.size w w1) := HB0.out.trans (hb1.mono (by omega))
  obtain ⟨d0, d1, d2, d3⟩ := HBx1.out.cells
  have hs1 := hb1.size
  clear hb1 b0 b1 b2 b3
  cases ok with
  | false =>
    have HE : Hid (subsN c = []) := by unfold Hid subsN; rw [← HOk.out]; rfl
    go_wp2_with fail
    go_ret
    exact ⟨w.heap.size, _, [], [], rfl, Nat.le_refl _, by rw [HE.out]; exact RowK.nil _ _ _, fun x hx => by simp at hx, HBw1.out⟩
  | true =>
    have hokc : conOk c = true := HOk.out.symm
    have HF : Hid (FitC c) := ⟨by have := bulk_of_ok hokc; omega, wfC_of_ok hokc⟩
    have HLn : Hid ((parts c 1).length ≤ 16) := by unfold Hid; unfold conOk at hokc; rw [Bool.and_eq_true] at hokc; exact of_decide_eq_true hokc.1
    obtain ⟨S, hS⟩ : ∃ S, S = putsN [] (parts c 1) := ⟨_, rfl⟩
    have HS : Hid (S = putsN [] (parts c 1)) := hS
    have HSs : Hid (subsN c = S) := by unfold Hid subsN; rw [← HOk.out, hS]; rfl
    have HSl : Hid (S.length ≤ 16) := by unfold Hid; rw [hS]; have := putsN_len [] (parts c 1); have := HLn.out; simp only [List.length_nil] at *; omega
    have HSf : Hid (∀ x ∈ S, FitC x) := by unfold Hid; rw [hS]; exact putsN_all _ (fun x hx => by simp at hx) (parts_fit c 1 HF.out)
    have HR1 : Hid (RdC lo hi w1 d (.agg #[.int .i64 k, .slice na nn nc, .slice ra rn rc, .slice ka kn kc]) c) := HR0.out.below HB1.out hh0
    have hbw1 : W0.heap.size ≤ w1.heap.size := hs1
    have HRn : Hid (RowS W0.heap.size hi w1 d (.slice none 0 0) [] [] []) := RowS.nil _ _ _ _
    have hnn : ([] : List CN).length + (parts c 1).length ≤ 100000 := by have := HLn.out; simp only [List.length_nil]; omega
    clear hS hokc
    go_wp2_with fail
    refine (sbP_any d _ c w1 lo hi W0.heap.size d 1 _ [] [] [] HR1.out (Nat.le_refl _) hh0 hbw1 HRn.out HF.out (fun x hx => by simp at hx) hnn).mono ?_
    rintro e w2 ⟨u2, L2, x2, rfl, hr2, hg2⟩
    rw [← HS.out] at hr2
    have HR2 : Hid (RowS W0.heap.size hi w2 d u2 S L2 x2) := hr2
    have HB2 : Hid (Below w.heap.size w w2) := ⟨hg2.grown.os.trans HBw1.out.os, hg2.grown.tape.trans HBw1.out.tape, hg2.grown.output.trans HBw1.out.output, Nat.le_trans HBw1.out.size hg2.grown.size, fun b hb => (hg2.grown.block b (by omega) (by simp [Value.ownBlock])).trans (HBw1.out.block b hb)⟩
    have hs2 : w1.heap.size ≤ w2.heap.size := hg2.grown.size
    obtain ⟨a2, cap2, bb2, hu2, hfit2, _⟩ := hr2.form
    obtain ⟨n, hn⟩ : ∃ n, n = S.length := ⟨_, rfl⟩
    rw [← hn] at hu2 hfit2
    subst hu2
    have HN : Hid (n = S.length) := hn
    have hn16 : n ≤ 16 := by have := HSl.out; omega
    obtain ⟨i0, hi0, hz0, hz1, hz2⟩ := info_parts Try.infoCon4
    clear hr2 hg2 hn d0 d1 d2 d3
    go_wp2_with fail
    go_loopw [3, 5] (fun l i wr => ∃ (j : Nat) (Lr : List (List (Addr × IntKind))) (xr : List Value), j ≤ n ∧ i = .int .i64 j ∧ RowK w2.heap.size wr d l (S.take j) Lr xr ∧ (∀ x ∈ Lr.flatten, w2.heap.size ≤ x.1.block) ∧ Below w2.heap.size w2 wr ∧ w2.heap.size ≤ wr.heap.size) (fun _ i _ => n - (intOf i).toNat)
    case atStart => exact ⟨0, [], [], Nat.zero_le _, rfl, RowK.nil _ _ _, fun x hx => by simp at hx, Below.refl _ _, Nat.le_refl _⟩
    case round =>
      obtain ⟨j, Lr, xr, hj, rfl, hrw, hge, hbel, hsr⟩ := hrel
      obtain ⟨a3, n3, cap3, hu3⟩ := hrw.isSlice
      subst hu3
      have HRw : Hid (RowK w2.heap.size wr d (.slice a3 n3 cap3) (S.take j) Lr xr) := hrw
      have HGe : Hid (∀ x ∈ Lr.flatten, w2.heap.size ≤ x.1.block) := hge
      have HBe : Hid (Below w2.heap.size w2 wr) := hbel
      by_cases hlt : j < n
      · have hjl : j < S.length := by rw [← HN.out]; exact hlt
        have hji : (j : Int) < (n : Int) := by omega
        have HTs : Hid (S.take (j + 1) = S.take j ++ [S.getD j CN.zero]) := take_succ_getD _ _ _ hjl
        have HTl : Hid ((S.take j).length = j) := by unfold Hid; rw [List.length_take]; omega
        obtain ⟨a', cap', b, hu, _, hc⟩ := (HR2.out.below hbel).form
        simp only [Value.slice.injEq] at hu
        obtain ⟨rfl, hq, rfl⟩ := hu
        clear hq
        rcases hc with e | ⟨rfl, hblt, hc⟩
        · omega
        · obtain ⟨v0, v1, v2, v3, q0, q1, q2, q3, hrd⟩ := hc j hjl
          simp only [Nat.zero_add] at q0 q1 q2 q3
          have HEl : Hid (RdC 0 hi wr d (.agg #[v0, v1, v2, v3]) (S.getD j CN.zero)) := hrd
          have HEb : Hid ((S.getD j CN.zero).bulk ≤ 1048576) := (fit_getD HSf.out j hjl).1
          have hhr : hi ≤ wr.heap.size := by omega
          clear hc hrd hrw hge hbel
          go_wp2_with fail
          refine (owP_any d _ (S.getD j CN.zero) wr 0 hi HEl.out hhr HEb.out).mono ?_
          rintro e w5 ⟨v5, L5, rfl, hO5, hl5, hb5⟩
          obtain ⟨zna, znn, znc, zra, zrn, zrc, zka, zkn, zkc, rfl⟩ := hO5.agg
          obtain ⟨zk, hzk⟩ : ∃ zk, zk = (S.getD j CN.zero).kind := ⟨_, rfl⟩
          rw [← hzk] at hO5 ⊢
          obtain ⟨Wn, hWn⟩ : ∃ W, W = w5.alloc (.cells #[.int .i64 zk, .slice zna znn znc, .slice zra zrn zrc, .slice zka zkn zkc] 38) := ⟨_, rfl⟩
          have hbn : Below w5.heap.size w5 Wn := by rw [hWn]; exact (Below.refl _ _).alloc (Nat.le_refl _) _
          have HBn : Hid (Below wr.heap.size wr Wn) := hb5.trans (hbn.mono hb5.size)
          have HOn : Hid (OwC Wn d (.agg #[.int .i64 zk, .slice zna znn znc, .slice zra zrn zrc, .slice zka zkn zkc]) (S.getD j CN.zero) L5) := hO5.below hbn (fun x hx => (hl5 x hx).2)
          have HLn5 : Hid (∀ x ∈ L5, wr.heap.size ≤ x.1.block ∧ x.1.block < Wn.heap.size) := fun x hx => ⟨by have := (hl5 x hx).1; omega, Nat.lt_of_lt_of_le (hl5 x hx).2 hbn.size⟩
          have HRown : Hid (Wn.ownsRow w2.heap.size 38 4 (.slice a3 n3 cap3) j xr) := by have := (HRw.out.below HBn.out).row; rw [HTl.out] at this; exact this
          have hsn : w2.heap.size ≤ Wn.heap.size := Nat.le_trans hsr HBn.out.size
          subst hWn
          clear hO5 hl5 hb5 hbn hzk
          go_wp2_with (at_builtin; refine wpList_append_own_at _ rfl (.tmp 17) (.tmp 23) 36 rfl w2.heap.size 38 i0 (.agg #[.int .i64 0, .slice none 0 0, .slice none 0 0, .slice none 0 0]) 4 80 Try.underlying36 hi0 hz0 hz1 hz2 rfl (by decide) (.slice a3 n3 cap3) j xr rfl HRown.out ⟨w5.heap.size, 0, none⟩ 1 1 [.int .i64 zk, .slice zna znn znc, .slice zra zrn zrc, .slice zka zkn zkc] rfl rfl (new4 _ _ _ _ _ _ _ rfl) (one4 _ _ _ _ _ _ _ _ _ _) (by unfold maxLen; omega) (by omega) hsn ?_; intro v' w6 hown hgrow hnil hat; have HA : Hid (RowK w2.heap.size w6 d v' (S.take j ++ [S.getD j CN.zero]) (Lr ++ [L5]) (xr ++ [.int .i64 zk, .slice zna znn znc, .slice zra zrn zrc, .slice zka zkn zkc]) ∧ (∀ x ∈ (Lr ++ [L5]).flatten, w2.heap.size ≤ x.1.block) ∧ Below w2.heap.size w2 w6 ∧ w2.heap.size ≤ w6.heap.size) := subsApp hsr HBe.out HRw.out HGe.out HBn.out HOn.out HLn5.out (by rw [HTl.out]; exact hown) hgrow hat; clear hown hgrow hnil hat)
          go_roundw
          case rel => exact ⟨j + 1, _, _, by omega, by go_num, by rw [HTs.out]; exact HA.out⟩
          case measure => simp [intOf]; omega
      · have HTk : Hid (S.take j = S) := List.take_of_length_le (by rw [← HN.out]; omega)
        have hws : w.heap.size ≤ w2.heap.size := HB2.out.size
        have HBf : Hid (Below w.heap.size w wr) := HB2.out.trans (hbel.mono hws)
        clear hrw hge hbel
        go_wp2_with fail
        go_ret
        exact ⟨w2.heap.size, _, Lr, xr, rfl, hws, by rw [HSs.out, ← HTk.out]; exact HRw.out, HGe.out, HBf.out⟩

end Go.Proofs.Ytfbokljbmihlbaa
