/- Which of what is told as clauses may be, as the program looks: a contract. -/
import Derived.Test.YtknainelonaigaaGreatDoorClsI1
import Derived.Test.YtknainelonaigaaGreatDoorNI2
import Derived.Test.YtknainelonaigaaGreatDoorNWn
namespace Go.Proofs.YtknainelonaigaaGreatDoor
open Go.RowKit

theorem clauseFits_any {aa : Option Addr} {an ac : Nat} {ra : Option Addr} {rn rc : Nat} {wa : Option Addr} {wn wc : Nat} {la : Option Addr} {ln lc : Nat} {k f r u xp xn yp yn : Int} {ia : Option Addr} {im ic : Nat} {a b : Int} {xs : List (Int × Int)} {w : World} {lo hi : Nat} (hR : RP lo hi w ia im ic xs) (hhi : hi ≤ w.heap.size) (hT : TabD w) (hg : 2 < w.heap.size) :
    Calls Tryz.prog 51 #[.agg #[.int .i64 k, .int .i64 f, .int .i64 r, .int .i64 u, .int .i64 xp, .int .i64 xn, .int .i64 yp, .int .i64 yn, .slice ia im ic, .int .i64 a, .int .i64 b], .agg #[.slice aa an ac, .slice ra rn rc, .slice wa wn wc, .slice la ln lc]] w fun e w' => e = .returned (.bool (fitK an rn ⟨k, f, r, u, xp, xn, yp, yn, xs, a, b⟩)) ∧ Below w.heap.size w w' := by
  cases hok : clauseB k f r u xp xn yp yn xs a b with
  | true => exact clauseFits_yes hR hhi hT hg hok
  | false => exact clauseFits_no hR hhi hok

set_option maxRecDepth 100000 in
set_option maxHeartbeats 1000000 in
theorem badK_any {aa : Option Addr} {an ac : Nat} {ra : Option Addr} {rn rc : Nat} {wa : Option Addr} {wn wc : Nat} {la : Option Addr} {ln lc : Nat} {k f r u xp xn yp yn : Int} {ia : Option Addr} {im ic : Nat} {a b : Int} {xs : List (Int × Int)} {w : World} {lo hi sp : Nat} (hR : RP lo hi w ia im ic xs) (hhi : hi ≤ w.heap.size) (hT : TabD w) (hg : 2 < w.heap.size) (hs : Blk w sp 33 (.slice aa an ac) (.slice ra rn rc) (.slice wa wn wc) (.slice la ln lc)) :
    Calls Tryz.prog 50 #[.agg #[.int .i64 k, .int .i64 f, .int .i64 r, .int .i64 u, .int .i64 xp, .int .i64 xn, .int .i64 yp, .int .i64 yn, .slice ia im ic, .int .i64 a, .int .i64 b], .pointer (some ⟨sp, 0, none⟩)] w fun e w' => e = .returned (.bool (!fitK an rn ⟨k, f, r, u, xp, xn, yp, yn, xs, a, b⟩)) ∧ Below w.heap.size w w' := by
  obtain ⟨W, hW⟩ : ∃ W, W = w.alloc (.cells #[.int .i64 k, .int .i64 f, .int .i64 r, .int .i64 u, .int .i64 xp, .int .i64 xn, .int .i64 yp, .int .i64 yn, .slice ia im ic, .int .i64 a, .int .i64 b] 53) := ⟨_, rfl⟩
  have HW : Hid (W = w.alloc (.cells #[.int .i64 k, .int .i64 f, .int .i64 r, .int .i64 u, .int .i64 xp, .int .i64 xn, .int .i64 yp, .int .i64 yn, .slice ia im ic, .int .i64 a, .int .i64 b] 53)) := hW
  have hb0 : Below w.heap.size w W := by rw [hW]; exact (Below.refl _ _).alloc (Nat.le_refl _) _
  have HB0 : Hid (Below w.heap.size w W) := hb0
  have hkb : BoxK 53 W w.heap.size k f r u xp xn yp yn (.slice ia im ic) a b := by rw [hW]; exact BoxK.new _ w _ _ _ _ _ _ _ _ _ _ _
  have hsb := hs.below hb0 hs.lt
  have HR : Hid (RP lo hi W ia im ic xs) := hR.below hb0 hhi
  have HT : Hid (TabD W) := hT.below hb0 hg
  have hs0 := hb0.size
  obtain ⟨y0, y1, y2, y3, y4, y5, y6, y7, y8, y9, y10⟩ := hkb.cells
  obtain ⟨x0, x1, x2, x3, _⟩ := hsb.cells
  clear hW hb0 hkb hsb hR hT hs
  go_enter Tryz.func50, Tryz.ntmps50
  go_upto_region 1 with fail
  rw [← HW.out]
  go_wp2_with fail
  refine (clauseFits_any HR.out (Nat.le_trans hhi hs0) HT.out (by omega)).mono ?_
  rintro e w1 ⟨rfl, hb1⟩
  have HB1 : Hid (Below w.heap.size w w1) := HB0.out.trans (hb1.mono hs0)
  clear hb1
  go_wp2_with fail
  go_ret
  exact ⟨rfl, HB1.out⟩

set_option maxRecDepth 100000 in
set_option maxHeartbeats 2000000 in
theorem indexBadK_any {aa : Option Addr} {an ac : Nat} {ra : Option Addr} {rn rc : Nat} {wa : Option Addr} {wn wc : Nat} {la : Option Addr} {ln lc : Nat} {lo hi sp n cap : Nat} {p : Option Addr} {cs : List CL} {w : World} (h : RdG lo hi w p n cap cs) (hhi : hi ≤ w.heap.size) (hT : TabD w) (hg : 2 < w.heap.size) (hs : Blk w sp 33 (.slice aa an ac) (.slice ra rn rc) (.slice wa wn wc) (.slice la ln lc)) (hn : n ≤ 1048576) :
    Calls Tryz.prog 78 #[.slice p n cap, .func (.func 50) #[] #[.pointer (some ⟨sp, 0, none⟩)]] w fun e w' => ∃ r : Int, e = .returned (.int .i64 r) ∧ ((0 ≤ r ∧ cs.all (fitK an rn) = false) ∨ (r < 0 ∧ cs.all (fitK an rn) = true)) ∧ Below w.heap.size w w' := by
  have HL : Hid (RdG lo hi w p n cap cs) := h
  have HLn : Hid (cs.length = n) := h.len
  have HT : Hid (TabD w) := hT
  have HS : Hid (Blk w sp 33 (.slice aa an ac) (.slice ra rn rc) (.slice wa wn wc) (.slice la ln lc)) := hs
  have hsl := hs.lt
  clear h hT hs
  go_enter Tryz.func78, Tryz.ntmps78
  go_upto_region 2 with fail
  go_loopw [8] (fun i wr => ∃ j : Nat, j ≤ n ∧ i = .int .i64 j ∧ (∀ m, m < j → fitK an rn (cs.getD m CL.zero) = true) ∧ Below w.heap.size w wr) (fun i _ => n - (intOf i).toNat)
  case atStart => exact ⟨0, Nat.zero_le _, rfl, fun m hm => absurd hm (by omega), Below.refl _ _⟩
  case round =>
    obtain ⟨j, hj, rfl, hnot, hbel⟩ := hrel
    have HNt : Hid (∀ m, m < j → fitK an rn (cs.getD m CL.zero) = true) := hnot
    have HBe : Hid (Below w.heap.size w wr) := hbel
    have hszr := hbel.size
    by_cases hlt : j < n
    · have hji : (j : Int) < (n : Int) := by omega
      have hjl : j < cs.length := by rw [HLn.out]; exact hlt
      have hR := HL.out.below hbel hhi
      rcases hR.cells with e | ⟨b, off, rfl, _, _, hc⟩
      · omega
      · obtain ⟨ia, im, ic, q0, q1, q2, q3, q4, q5, q6, q7, q8, q9, q10, hrd⟩ := hc j hlt
        obtain ⟨x, hx⟩ : ∃ x, x = cs.getD j CL.zero := ⟨_, rfl⟩
        rw [← hx] at q0 q1 q2 q3 q4 q5 q6 q7 q9 q10 hrd
        have HX : Hid (x = cs.getD j CL.zero) := hx
        obtain ⟨xk, xf, xr, xu, xxp, xxn, xyp, xyn, xi, xa, xb⟩ := x
        dsimp only at q0 q1 q2 q3 q4 q5 q6 q7 q9 q10 hrd
        have HEl : Hid (RP lo hi wr ia im ic xi) := hrd
        have HTw : Hid (TabD wr) := HT.out.below hbel hg
        have HSw : Hid (Blk wr sp 33 (.slice aa an ac) (.slice ra rn rc) (.slice wa wn wc) (.slice la ln lc)) := HS.out.below hbel hsl
        obtain ⟨v, hv⟩ : ∃ v, v = fitK an rn ⟨xk, xf, xr, xu, xxp, xxn, xyp, xyn, xi, xa, xb⟩ := ⟨_, rfl⟩
        have HV : Hid (fitK an rn ⟨xk, xf, xr, xu, xxp, xxn, xyp, xyn, xi, xa, xb⟩ = v) := hv.symm
        clear hR hc hrd hx hv hnot hbel
        go_wp2_with fail
        refine (badK_any HEl.out (by omega) HTw.out (by omega) HSw.out).mono ?_
        rintro e w5 ⟨rfl, hb5⟩
        rw [HV.out]
        have HB5 : Hid (Below w.heap.size w w5) := HBe.out.trans (hb5.mono hszr)
        clear hb5
        cases v with
        | false =>
          have HP : Hid (cs.all (fitK an rn) = false) := all_not (d := CL.zero) hjl (by rw [← HX.out]; exact HV.out)
          go_wp2_with fail
          go_ret
          exact ⟨_, rfl, .inl ⟨by omega, HP.out⟩, HB5.out⟩
        | true =>
          have HF : Hid (∀ m, m < j + 1 → fitK an rn (cs.getD m CL.zero) = true) := fun m hm => by
            by_cases e : m = j
            · subst e; rw [← HX.out]; exact HV.out
            · exact HNt.out m (by omega)
          go_wp2_with fail
          go_roundw
          case rel => exact ⟨j + 1, by omega, by go_num, HF.out, HB5.out⟩
          case measure => simp [intOf]; omega
    · have HP : Hid (cs.all (fitK an rn) = true) := all_take (d := CL.zero) HLn.out (fun m hm => hnot m (by omega))
      clear hnot hbel
      go_wp2_with fail
      go_ret
      exact ⟨-1, rfl, .inr ⟨by omega, HP.out⟩, HBe.out⟩

set_option maxRecDepth 100000 in
set_option maxHeartbeats 1000000 in
theorem hasBadK_any {aa : Option Addr} {an ac : Nat} {ra : Option Addr} {rn rc : Nat} {wa : Option Addr} {wn wc : Nat} {la : Option Addr} {ln lc : Nat} {lo hi sp n cap : Nat} {p : Option Addr} {cs : List CL} {w : World} (h : RdG lo hi w p n cap cs) (hhi : hi ≤ w.heap.size) (hT : TabD w) (hg : 2 < w.heap.size) (hs : Blk w sp 33 (.slice aa an ac) (.slice ra rn rc) (.slice wa wn wc) (.slice la ln lc)) (hn : n ≤ 1048576) :
    Calls Tryz.prog 49 #[.slice p n cap, .func (.func 50) #[] #[.pointer (some ⟨sp, 0, none⟩)]] w fun e w' => e = .returned (.bool (!cs.all (fitK an rn))) ∧ Below w.heap.size w w' := by
  go_enter Tryz.func49, Tryz.ntmps49
  go_wp2_with fail
  refine (indexBadK_any h hhi hT hg hs hn).mono ?_
  rintro e w1 ⟨r, rfl, hr, hb⟩
  have HR : Hid ((0 ≤ r ∧ cs.all (fitK an rn) = false) ∨ (r < 0 ∧ cs.all (fitK an rn) = true)) := hr
  have HB : Hid (Below w.heap.size w w1) := hb
  clear hr hb h hT hs
  go_wp2_with fail
  go_ret
  refine ⟨rb ?_, HB.out⟩
  rcases HR.out with ⟨h1, h2⟩ | ⟨h1, h2⟩
  · rw [h2]; exact decide_eq_true h1
  · rw [h2]; exact decide_eq_false (by omega)

theorem clsB_eq {s : CS} {an rn wn ln : Nat} (h1 : s.atoms.length = an) (h2 : s.roles.length = rn) (h3 : s.who.length = wn) (h4 : s.l.length = ln) :
    clsB s = ((decide (an ≤ 24) && atomsB s.atoms) && ((decide (rn ≤ 3) && namesB false s.roles) && ((decide (wn ≤ 3) && namesB false s.who) && (decide (ln ≤ 200) && s.l.all (fitK an rn))))) := by
  unfold clsB headB
  rw [h1, h2, h3, h4]
  cases decide (an ≤ 24) <;> cases decide (rn ≤ 3) <;> cases decide (wn ≤ 3) <;> cases decide (ln ≤ 200) <;> cases namesB false s.roles <;> cases namesB false s.who <;> cases atomsB s.atoms <;> simp

set_option maxRecDepth 100000 in
set_option maxHeartbeats 4000000 in
theorem implClsOk_any {d : Nat} {aa : Option Addr} {an ac : Nat} {ra : Option Addr} {rn rc : Nat} {wa : Option Addr} {wn wc : Nat} {la : Option Addr} {ln lc : Nat} {s : CS} {w : World} {lo hi : Nat} (h : RdS lo hi w d aa an ac ra rn rc wa wn wc la ln lc s) (hhi : hi ≤ w.heap.size) (hfit : bulks s.atoms ≤ 1048576 ∧ an ≤ 1048576) (hT : TabD w) (hg : 2 < w.heap.size) :
    Calls Tryz.prog 23 #[.agg #[.slice aa an ac, .slice ra rn rc, .slice wa wn wc, .slice la ln lc]] w fun e w' => e = .returned (.bool (clsB s)) ∧ Below w.heap.size w w' := by
  obtain ⟨W, hW⟩ : ∃ W, W = w.alloc (.cells #[.slice aa an ac, .slice ra rn rc, .slice wa wn wc, .slice la ln lc] 33) := ⟨_, rfl⟩
  have HW : Hid (W = w.alloc (.cells #[.slice aa an ac, .slice ra rn rc, .slice wa wn wc, .slice la ln lc] 33)) := hW
  have hb0 : Below w.heap.size w W := by rw [hW]; exact (Below.refl _ _).alloc (Nat.le_refl _) _
  have HB0 : Hid (Below w.heap.size w W) := hb0
  have hsb : Blk W w.heap.size 33 (.slice aa an ac) (.slice ra rn rc) (.slice wa wn wc) (.slice la ln lc) := by rw [hW]; exact Blk.alloc_new w _ _ _ _ _ _ rfl
  have HS : Hid (∀ V, Below W.heap.size W V → Blk V w.heap.size 33 (.slice aa an ac) (.slice ra rn rc) (.slice wa wn wc) (.slice la ln lc)) := fun V hV => hsb.below hV hsb.lt
  have HR : Hid (∀ V, Below W.heap.size W V → RdS lo hi V d aa an ac ra rn rc wa wn wc la ln lc s ∧ hi ≤ V.heap.size) := fun V hV => ⟨(h.below hb0 hhi).below hV (Nat.le_trans hhi hb0.size), Nat.le_trans (Nat.le_trans hhi hb0.size) hV.size⟩
  have HF : Hid (∀ V, Below W.heap.size W V → Below w.heap.size w V) := fun V hV => hb0.trans (hV.mono hb0.size)
  have HT : Hid (∀ V, Below W.heap.size W V → TabD V ∧ 2 < V.heap.size) := fun V hV => ⟨(hT.below hb0 hg).below hV (by have := hb0.size; omega), by have := hb0.size; have := hV.size; omega⟩
  have H0 : Hid (Below W.heap.size W W) := Below.refl _ _
  have HE : Hid (clsB s = ((decide (an ≤ 24) && atomsB s.atoms) && ((decide (rn ≤ 3) && namesB false s.roles) && ((decide (wn ≤ 3) && namesB false s.who) && (decide (ln ≤ 200) && s.l.all (fitK an rn)))))) := clsB_eq h.atoms.len h.roles.len h.who.len h.l.len
  have HFt : Hid (bulks s.atoms ≤ 1048576 ∧ an ≤ 1048576) := hfit
  have hf4 := h.l.fits
  obtain ⟨z0, z1, z2, z3, _⟩ := hsb.cells
  clear h hb0 hW hsb hfit hT
  go_enter Tryz.func23, Tryz.ntmps23
  go_upto_region 1 with fail
  rw [← HW.out]
  go_wp2_with fail
  refine (atomsFit_any (HR.out _ H0.out).1.atoms (HR.out _ H0.out).2 HFt.out.1 HFt.out.2).mono ?_
  rintro e w1 ⟨rfl, hb1⟩
  obtain ⟨v1, hv1⟩ : ∃ v, v = (decide (an ≤ 24) && atomsB s.atoms) := ⟨_, rfl⟩
  rw [← hv1]
  have V1 : Hid ((decide (an ≤ 24) && atomsB s.atoms) = v1) := hv1.symm
  have H1 : Hid (Below W.heap.size W w1) := hb1
  clear hb1 hv1 z0 z1 z2 z3
  obtain ⟨z0, z1, z2, z3, _⟩ := (HS.out _ H1.out).cells
  cases v1 with
  | false =>
    have HE' : Hid (clsB s = false) := by unfold Hid; rw [HE.out, V1.out]; rfl
    go_wp2_with fail
    go_ret
    exact ⟨rb HE'.out.symm, HF.out _ H1.out⟩
  | true =>
    go_wp2_with fail
    refine (wordsFitL_any ra rn rc 3 s.roles w1 (HR.out _ H1.out).1.roles).mono ?_
    rintro e w2 ⟨rfl, hw2⟩
    rw [hw2]
    obtain ⟨v2, hv2⟩ : ∃ v, v = (decide (rn ≤ 3) && namesB false s.roles) := ⟨_, rfl⟩
    rw [← hv2]
    have V2 : Hid ((decide (rn ≤ 3) && namesB false s.roles) = v2) := hv2.symm
    clear hw2 hv2
    cases v2 with
    | false =>
      have HE' : Hid (clsB s = false) := by unfold Hid; rw [HE.out, V1.out, V2.out]; rfl
      go_wp2_with fail
      go_ret
      exact ⟨rb HE'.out.symm, HF.out _ H1.out⟩
    | true =>
      go_wp2_with fail
      refine (wordsFitL_any wa wn wc 3 s.who w1 (HR.out _ H1.out).1.who).mono ?_
      rintro e w3 ⟨rfl, hw3⟩
      rw [hw3]
      obtain ⟨v3, hv3⟩ : ∃ v, v = (decide (wn ≤ 3) && namesB false s.who) := ⟨_, rfl⟩
      rw [← hv3]
      have V3 : Hid ((decide (wn ≤ 3) && namesB false s.who) = v3) := hv3.symm
      clear hw3 hv3
      cases v3 with
      | false =>
        have HE' : Hid (clsB s = false) := by unfold Hid; rw [HE.out, V1.out, V2.out, V3.out]; rfl
        go_wp2_with fail
        go_ret
        exact ⟨rb HE'.out.symm, HF.out _ H1.out⟩
      | true =>
        by_cases c4 : ln ≤ 200
        · have c4' : decide ((ln : Int) ≤ 200) = true := decide_eq_true (by omega)
          have HE' : Hid (clsB s = s.l.all (fitK an rn)) := by unfold Hid; rw [HE.out, V1.out, V2.out, V3.out, decide_eq_true c4]; rfl
          go_wp2_with fail
          refine (hasBadK_any (HR.out _ H1.out).1.l (HR.out _ H1.out).2 (HT.out _ H1.out).1 (HT.out _ H1.out).2 (HS.out _ H1.out) (by omega)).mono ?_
          rintro e w4 ⟨rfl, hb4⟩
          have H4 : Hid (Below W.heap.size W w4) := H1.out.trans (hb4.mono H1.out.size)
          obtain ⟨v4, hv4⟩ : ∃ v, v = s.l.all (fitK an rn) := ⟨_, rfl⟩
          rw [← hv4]
          have V4 : Hid (s.l.all (fitK an rn) = v4) := hv4.symm
          clear hb4 hv4
          go_wp2_with fail
          go_ret
          exact ⟨rb (by rw [HE'.out, V4.out]), HF.out _ H4.out⟩
        · have c4' : decide ((ln : Int) ≤ 200) = false := decide_eq_false (by omega)
          have HE' : Hid (clsB s = false) := by unfold Hid; rw [HE.out, V1.out, V2.out, V3.out, decide_eq_false c4]; rfl
          go_wp2_with fail
          go_ret
          exact ⟨rb HE'.out.symm, HF.out _ H1.out⟩

end Go.Proofs.YtknainelonaigaaGreatDoor
