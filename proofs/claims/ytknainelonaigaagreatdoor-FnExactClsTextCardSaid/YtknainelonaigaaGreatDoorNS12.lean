/- Several texts in one: ClsS1, ClsS2. -/
import Derived.Test.YtknainelonaigaaGreatDoorClsMem
import Derived.Test.YtknainelonaigaaGreatDoorNGr
import Derived.Test.YtknainelonaigaaGreatDoorNSame
import Derived.Test.YtknainelonaigaaGreatDoorNWn
import Derived.Deep.RegionWith
import Derived.Test.YtknainelonaigaaGreatDoorConTo
namespace Go.Proofs.YtknainelonaigaaGreatDoor

section
open Go.RowKit

def smallB (n : Nat) (p q : Int) : Bool := decide (p < 2 ^ n) && decide (q < 2 ^ n)
def needR (k : Int) : Bool := decide (2 ≤ k) && !decide (k = 5)
def roleOkB (nr : Nat) (k r u : Int) : Bool := !needR k || (decide (r < (nr : Int)) && (!decide (k = 4) || decide (u < (nr : Int))))
def okK (x : CL) : Bool := clauseB x.kind x.fn x.role x.above x.xp x.xn x.yp x.yn x.inds x.a x.b
def nameB (na nr : Nat) (x : CL) : Bool := x.inds.all (fun p => smallB na p.1 p.2) && (smallB na x.xp x.xn && (smallB na x.yp x.yn && roleOkB nr x.kind x.role x.above))
def fitK (na nr : Nat) (x : CL) : Bool := okK x && nameB na nr x
def atomAt (l : List CN) (i : Nat) : Bool := conOk (l.getD i CN.zero) && (List.range i).all (fun k => !sameC (l.getD k CN.zero) (l.getD i CN.zero))
def atomsB (l : List CN) : Bool := (List.range l.length).all (atomAt l)
def headB (s : CS) : Bool := decide (s.atoms.length ≤ 24) && (decide (s.roles.length ≤ 3) && (decide (s.who.length ≤ 3) && (namesB false s.roles && (namesB false s.who && decide (s.l.length ≤ 200)))))
/-- May it be? -/
def clsB (s : CS) : Bool := headB s && (atomsB s.atoms && s.l.all (fitK s.atoms.length s.roles.length))

theorem below_nN {B : Nat} {w w' : World} (h : Below B w w') (n : Nat) : Below B w (w'.drewN n) := ⟨h.os, h.tape, h.output, h.size, fun b hb => h.block b hb⟩

set_option maxRecDepth 100000 in
set_option maxHeartbeats 1000000 in
theorem l6small_any (p q : Int) (n : Nat) (hn : n ≤ 24) (w : World) :
    Calls Tryz.prog 68 #[.agg #[.int .i64 p, .int .i64 q], .int .i64 (n : Nat)] w fun e w' => e = .returned (.bool (smallB n p q)) ∧ Below w.heap.size w w' := by
  obtain ⟨W, hW⟩ : ∃ W, W = w.alloc (.cells #[.int .i64 p, .int .i64 q] 50) := ⟨_, rfl⟩
  have HW : Hid (W = w.alloc (.cells #[.int .i64 p, .int .i64 q] 50)) := hW
  have HB0 : Hid (Below w.heap.size w W) := by rw [hW]; exact (Below.refl _ _).alloc (Nat.le_refl _) _
  have hbx : BoxP 50 W w.heap.size p q := by rw [hW]; exact BoxP.new _ w _ _
  obtain ⟨z0, z1⟩ := hbx.cells
  clear hW hbx
  go_enter Tryz.func68, Tryz.ntmps68
  go_upto_region 1 with fail
  rw [← HW.out]
  have hwr : IntKind.i64.wrap ((2 : Int) ^ n) = (2 : Int) ^ n := by
    have h2 : (2 : Nat) ^ n ≤ 2 ^ 24 := Nat.pow_le_pow_right (by omega) hn
    have h3 : ((2 ^ n : Nat) : Int) = (2 : Int) ^ n := by simp
    rw [← h3]
    exact wrap_id _ (by omega)
  by_cases h : p < 2 ^ n
  · have HE : Hid (smallB n p q = decide (q < 2 ^ n)) := by unfold Hid smallB; rw [decide_eq_true h]; rfl
    go_quiet (fail)
    go_wp2_with fail
    go_ret
    exact ⟨rb HE.out.symm, below_nN HB0.out _⟩
  · have HE : Hid (smallB n p q = false) := by unfold Hid smallB; rw [decide_eq_false h]; rfl
    have hd : decide (p < 2 ^ n) = false := decide_eq_false h
    clear h
    go_quiet (fail)
    go_wp2_with fail
    go_ret
    exact ⟨rb HE.out.symm, below_nN HB0.out _⟩
end

section
open Go.RowKit

theorem all_take {α : Type} {p : α → Bool} {d : α} {l : List α} {n : Nat} (hl : l.length = n) (h : ∀ m, m < n → p (l.getD m d) = true) : l.all p = true := by
  rw [List.all_eq_true]
  intro x hx
  obtain ⟨i, hi, rfl⟩ := List.mem_iff_getElem.1 hx
  have := h i (by omega)
  rwa [List.getD_eq_getElem?_getD, List.getElem?_eq_getElem hi] at this
theorem all_not {α : Type} {p : α → Bool} {d : α} {l : List α} {m : Nat} (hm : m < l.length) (h : p (l.getD m d) = false) : l.all p = false := by
  rw [List.all_eq_false]
  refine ⟨l.getD m d, ?_, by rw [h]; simp⟩
  rw [List.getD_eq_getElem?_getD, List.getElem?_eq_getElem hm]
  exact List.getElem_mem _

set_option maxRecDepth 100000 in
set_option maxHeartbeats 4000000 in
theorem l6names_any {aa : Option Addr} {an ac : Nat} {ra : Option Addr} {rn rc : Nat} {wa : Option Addr} {wn wc : Nat} {la : Option Addr} {ln lc : Nat} {k f r u xp xn yp yn : Int} {ia : Option Addr} {im ic : Nat} {a b : Int} {xs : List (Int × Int)} {w : World} {lo hi : Nat} (hR : RP lo hi w ia im ic xs) (hhi : hi ≤ w.heap.size) (hn : an ≤ 24) :
    Calls Tryz.prog 40 #[.agg #[.slice aa an ac, .slice ra rn rc, .slice wa wn wc, .slice la ln lc], .agg #[.int .i64 k, .int .i64 f, .int .i64 r, .int .i64 u, .int .i64 xp, .int .i64 xn, .int .i64 yp, .int .i64 yn, .slice ia im ic, .int .i64 a, .int .i64 b]] w fun e w' => e = .returned (.bool (nameB an rn ⟨k, f, r, u, xp, xn, yp, yn, xs, a, b⟩)) ∧ Below w.heap.size w w' := by
  obtain ⟨W, hW⟩ : ∃ W, W = (w.alloc (.cells #[.slice aa an ac, .slice ra rn rc, .slice wa wn wc, .slice la ln lc] 33)).alloc (.cells #[.int .i64 k, .int .i64 f, .int .i64 r, .int .i64 u, .int .i64 xp, .int .i64 xn, .int .i64 yp, .int .i64 yn, .slice ia im ic, .int .i64 a, .int .i64 b] 53) := ⟨_, rfl⟩
  have HW : Hid (W = (w.alloc (.cells #[.slice aa an ac, .slice ra rn rc, .slice wa wn wc, .slice la ln lc] 33)).alloc (.cells #[.int .i64 k, .int .i64 f, .int .i64 r, .int .i64 u, .int .i64 xp, .int .i64 xn, .int .i64 yp, .int .i64 yn, .slice ia im ic, .int .i64 a, .int .i64 b] 53)) := hW
  have hb0 : Below w.heap.size w W := by rw [hW]; exact ((Below.refl _ _).alloc (Nat.le_refl _) _).alloc (by simp) _
  have HB0 : Hid (Below w.heap.size w W) := hb0
  have hsb : Blk W w.heap.size 33 (.slice aa an ac) (.slice ra rn rc) (.slice wa wn wc) (.slice la ln lc) := by rw [hW]; exact (Blk.alloc_new w _ _ _ _ _ _ rfl).alloc _
  have hkb : BoxK 53 W (w.heap.size + 1) k f r u xp xn yp yn (.slice ia im ic) a b := by
    have e := BoxK.new 53 (w.alloc (.cells #[.slice aa an ac, .slice ra rn rc, .slice wa wn wc, .slice la ln lc] 33)) k f r u xp xn yp yn (.slice ia im ic) a b
    rw [World.size_alloc] at e
    rw [hW]; exact e
  have HS : Hid (∀ V, Below W.heap.size W V → Blk V w.heap.size 33 (.slice aa an ac) (.slice ra rn rc) (.slice wa wn wc) (.slice la ln lc)) := fun V hV => hsb.below hV hsb.lt
  have HK : Hid (∀ V, Below W.heap.size W V → BoxK 53 V (w.heap.size + 1) k f r u xp xn yp yn (.slice ia im ic) a b) := fun V hV => hkb.below hV hkb.lt
  have HR : Hid (∀ V, Below W.heap.size W V → RP lo hi V ia im ic xs) := fun V hV => (hR.below hb0 hhi).below hV (Nat.le_trans hhi hb0.size)
  have HLn : Hid (xs.length = im) := hR.len
  have hfit := hR.fits
  have H0 : Hid (Below W.heap.size W W) := Below.refl _ _
  obtain ⟨z0, z1, z2, z3, _⟩ := hsb.cells
  obtain ⟨y0, y1, y2, y3, y4, y5, y6, y7, y8, y9, y10⟩ := hkb.cells
  clear hb0 hW hsb hkb hR
  go_enter Tryz.func40, Tryz.ntmps40
  go_upto_region 1 with fail
  rw [← HW.out]
  go_wp2_with fail
  go_loopw [6] (fun i wr => ∃ j : Nat, j ≤ im ∧ i = .int .i64 j ∧ (∀ m, m < j → smallB an (xs.getD m (0, 0)).1 (xs.getD m (0, 0)).2 = true) ∧ Below W.heap.size W wr) (fun i _ => im - (intOf i).toNat)
  case atStart => exact ⟨0, Nat.zero_le _, rfl, fun m hm => absurd hm (by omega), H0.out⟩
  case round =>
    obtain ⟨j, hj, rfl, hall, hbel⟩ := hrel
    have HAl : Hid (∀ m, m < j → smallB an (xs.getD m (0, 0)).1 (xs.getD m (0, 0)).2 = true) := hall
    have HB : Hid (Below W.heap.size W wr) := hbel
    have HBw : Hid (Below w.heap.size w wr) := HB0.out.trans (hbel.mono HB0.out.size)
    clear z0 z1 z2 z3 y0 y1 y2 y3 y4 y5 y6 y7 y8 y9 y10
    obtain ⟨z0, z1, z2, z3, _⟩ := (HS.out _ hbel).cells
    obtain ⟨y0, y1, y2, y3, y4, y5, y6, y7, y8, y9, y10⟩ := (HK.out _ hbel).cells
    by_cases hlt : j < im
    · have hji : (j : Int) < (im : Int) := by omega
      have hrp := HR.out _ hbel
      rcases hrp.cells with h0 | ⟨bb, off, e1, _, _, hc⟩
      · omega
      · subst e1
        obtain ⟨c1, c2⟩ := hc j hlt
        obtain ⟨t, ht⟩ : ∃ t, t = xs.getD j (0, 0) := ⟨_, rfl⟩
        have HT : Hid (t = xs.getD j (0, 0)) := ht
        rw [← ht] at c1 c2
        obtain ⟨tp, tn⟩ := t
        obtain ⟨vs, hvs⟩ : ∃ v, v = smallB an tp tn := ⟨_, rfl⟩
        have HV : Hid (smallB an tp tn = vs) := hvs.symm
        clear hrp hc hall hbel ht hvs
        go_wp2_with fail
        refine (l6small_any tp tn an hn wr).mono ?_
        rintro e w1 ⟨rfl, hb1⟩
        rw [HV.out]
        have H1 : Hid (Below W.heap.size W w1) := HB.out.trans (hb1.mono HB.out.size)
        have H1w : Hid (Below w.heap.size w w1) := HBw.out.trans (hb1.mono HBw.out.size)
        clear hb1
        cases vs with
        | true =>
          have HN : Hid (∀ m, m < j + 1 → smallB an (xs.getD m (0, 0)).1 (xs.getD m (0, 0)).2 = true) := fun m hm => by
            by_cases e : m = j
            · subst e; rw [← HT.out]; exact HV.out
            · exact HAl.out m (by omega)
          go_wp2_with fail
          go_roundw
          case rel => exact ⟨j + 1, by omega, by go_num, HN.out, H1.out⟩
          case measure => simp [intOf]; omega
        | false =>
          have HE : Hid (nameB an rn ⟨k, f, r, u, xp, xn, yp, yn, xs, a, b⟩ = false) := by
            unfold Hid nameB
            dsimp only
            rw [all_not (m := j) (d := (0, 0)) (by rw [HLn.out]; exact hlt) (by rw [← HT.out]; exact HV.out)]
            rfl
          go_wp2_with fail
          go_ret
          exact ⟨rb HE.out.symm, H1w.out⟩
    · have HAll : Hid (xs.all (fun p => smallB an p.1 p.2) = true) := all_take (d := (0, 0)) HLn.out (fun m hm => hall m (by omega))
      clear hall hbel
      by_cases h2 : 2 ≤ k
      · by_cases h5 : k = 5
        · have HN : Hid (needR k = false) := by unfold Hid needR; rw [decide_eq_true h5]; simp
          have h5' : (k != 5) = false := by simp [h5]
          clear h5
          go_wp2_with fail
          refine (l6small_any xp xn an hn wr).mono ?_
          rintro e w1 ⟨rfl, hb1⟩
          have HB1 : Hid (Below w.heap.size w w1) := HBw.out.trans (hb1.mono HBw.out.size)
          have H1 : Hid (Below W.heap.size W w1) := HB.out.trans (hb1.mono HB.out.size)
          obtain ⟨vx, hvx⟩ : ∃ v, v = smallB an xp xn := ⟨_, rfl⟩
          rw [← hvx]
          have HX : Hid (smallB an xp xn = vx) := hvx.symm
          clear hb1 hvx z0 z1 z2 z3 y0 y1 y2 y3 y4 y5 y6 y7 y8 y9 y10
          obtain ⟨z0, z1, z2, z3, _⟩ := (HS.out _ H1.out).cells
          obtain ⟨y0, y1, y2, y3, y4, y5, y6, y7, y8, y9, y10⟩ := (HK.out _ H1.out).cells
          cases vx with
          | false =>
            have HE : Hid (nameB an rn ⟨k, f, r, u, xp, xn, yp, yn, xs, a, b⟩ = false) := by unfold Hid nameB; dsimp only; rw [HX.out]; simp
            go_wp2_with fail
            go_ret
            exact ⟨rb HE.out.symm, HB1.out⟩
          | true =>
            go_wp2_with fail
            refine (l6small_any yp yn an hn w1).mono ?_
            rintro e w2 ⟨rfl, hb2⟩
            have HB2 : Hid (Below w.heap.size w w2) := HB1.out.trans (hb2.mono HB1.out.size)
            have H2 : Hid (Below W.heap.size W w2) := H1.out.trans (hb2.mono H1.out.size)
            obtain ⟨vy, hvy⟩ : ∃ v, v = smallB an yp yn := ⟨_, rfl⟩
            rw [← hvy]
            have HY : Hid (smallB an yp yn = vy) := hvy.symm
            clear hb2 hvy z0 z1 z2 z3 y0 y1 y2 y3 y4 y5 y6 y7 y8 y9 y10
            obtain ⟨z0, z1, z2, z3, _⟩ := (HS.out _ H2.out).cells
            obtain ⟨y0, y1, y2, y3, y4, y5, y6, y7, y8, y9, y10⟩ := (HK.out _ H2.out).cells
            cases vy with
            | false =>
              have HE : Hid (nameB an rn ⟨k, f, r, u, xp, xn, yp, yn, xs, a, b⟩ = false) := by unfold Hid nameB; dsimp only; rw [HX.out, HY.out]; simp
              go_wp2_with fail
              go_ret
              exact ⟨rb HE.out.symm, HB2.out⟩
            | true =>
              have HE : Hid (nameB an rn ⟨k, f, r, u, xp, xn, yp, yn, xs, a, b⟩ = true) := by unfold Hid nameB roleOkB; dsimp only; rw [HAll.out, HX.out, HY.out, HN.out]; rfl
              go_wp2_with fail
              go_ret
              exact ⟨rb HE.out.symm, HB2.out⟩
        · have HN : Hid (needR k = true) := by unfold Hid needR; rw [decide_eq_true h2, decide_eq_false h5]; rfl
          have h5' : (k != 5) = true := by simpa using h5
          clear h5
          go_wp2_with fail
          refine (l6small_any xp xn an hn wr).mono ?_
          rintro e w1 ⟨rfl, hb1⟩
          have HB1 : Hid (Below w.heap.size w w1) := HBw.out.trans (hb1.mono HBw.out.size)
          have H1 : Hid (Below W.heap.size W w1) := HB.out.trans (hb1.mono HB.out.size)
          obtain ⟨vx, hvx⟩ : ∃ v, v = smallB an xp xn := ⟨_, rfl⟩
          rw [← hvx]
          have HX : Hid (smallB an xp xn = vx) := hvx.symm
          clear hb1 hvx z0 z1 z2 z3 y0 y1 y2 y3 y4 y5 y6 y7 y8 y9 y10
          obtain ⟨z0, z1, z2, z3, _⟩ := (HS.out _ H1.out).cells
          obtain ⟨y0, y1, y2, y3, y4, y5, y6, y7, y8, y9, y10⟩ := (HK.out _ H1.out).cells
          cases vx with
          | false =>
            have HE : Hid (nameB an rn ⟨k, f, r, u, xp, xn, yp, yn, xs, a, b⟩ = false) := by unfold Hid nameB; dsimp only; rw [HX.out]; simp
            go_wp2_with fail
            go_ret
            exact ⟨rb HE.out.symm, HB1.out⟩
          | true =>
            go_wp2_with fail
            refine (l6small_any yp yn an hn w1).mono ?_
            rintro e w2 ⟨rfl, hb2⟩
            have HB2 : Hid (Below w.heap.size w w2) := HB1.out.trans (hb2.mono HB1.out.size)
            have H2 : Hid (Below W.heap.size W w2) := H1.out.trans (hb2.mono H1.out.size)
            obtain ⟨vy, hvy⟩ : ∃ v, v = smallB an yp yn := ⟨_, rfl⟩
            rw [← hvy]
            have HY : Hid (smallB an yp yn = vy) := hvy.symm
            clear hb2 hvy z0 z1 z2 z3 y0 y1 y2 y3 y4 y5 y6 y7 y8 y9 y10
            obtain ⟨z0, z1, z2, z3, _⟩ := (HS.out _ H2.out).cells
            obtain ⟨y0, y1, y2, y3, y4, y5, y6, y7, y8, y9, y10⟩ := (HK.out _ H2.out).cells
            cases vy with
            | false =>
              have HE : Hid (nameB an rn ⟨k, f, r, u, xp, xn, yp, yn, xs, a, b⟩ = false) := by unfold Hid nameB; dsimp only; rw [HX.out, HY.out]; simp
              go_wp2_with fail
              go_ret
              exact ⟨rb HE.out.symm, HB2.out⟩
            | true =>
              by_cases hr : r < (rn : Int)
              · have hrd : decide (r < (rn : Int)) = true := decide_eq_true hr
                by_cases h4 : k = 4
                · have HE : Hid (nameB an rn ⟨k, f, r, u, xp, xn, yp, yn, xs, a, b⟩ = decide (u < (rn : Int))) := by unfold Hid nameB roleOkB; dsimp only; rw [HAll.out, HX.out, HY.out, HN.out, hrd, decide_eq_true h4]; simp
                  have h4' : (k != 4) = false := by simp [h4]
                  clear h4 hrd
                  go_wp2_with fail
                  go_ret
                  exact ⟨rb HE.out.symm, HB2.out⟩
                · have HE : Hid (nameB an rn ⟨k, f, r, u, xp, xn, yp, yn, xs, a, b⟩ = true) := by unfold Hid nameB roleOkB; dsimp only; rw [HAll.out, HX.out, HY.out, HN.out, hrd, decide_eq_false h4]; simp
                  have h4' : (k != 4) = true := by simpa using h4
                  clear h4 hrd
                  go_wp2_with fail
                  go_ret
                  exact ⟨rb HE.out.symm, HB2.out⟩
              · have HE : Hid (nameB an rn ⟨k, f, r, u, xp, xn, yp, yn, xs, a, b⟩ = false) := by unfold Hid nameB roleOkB; dsimp only; rw [HAll.out, HX.out, HY.out, HN.out, decide_eq_false hr]; simp
                have hrd : decide (r < (rn : Int)) = false := decide_eq_false hr
                clear hr
                go_wp2_with fail
                go_ret
                exact ⟨rb HE.out.symm, HB2.out⟩
      · have HN : Hid (needR k = false) := by unfold Hid needR; rw [decide_eq_false h2]; rfl
        have h2' : decide (2 ≤ k) = false := decide_eq_false h2
        clear h2
        go_wp2_with fail
        refine (l6small_any xp xn an hn wr).mono ?_
        rintro e w1 ⟨rfl, hb1⟩
        have HB1 : Hid (Below w.heap.size w w1) := HBw.out.trans (hb1.mono HBw.out.size)
        have H1 : Hid (Below W.heap.size W w1) := HB.out.trans (hb1.mono HB.out.size)
        obtain ⟨vx, hvx⟩ : ∃ v, v = smallB an xp xn := ⟨_, rfl⟩
        rw [← hvx]
        have HX : Hid (smallB an xp xn = vx) := hvx.symm
        clear hb1 hvx z0 z1 z2 z3 y0 y1 y2 y3 y4 y5 y6 y7 y8 y9 y10
        obtain ⟨z0, z1, z2, z3, _⟩ := (HS.out _ H1.out).cells
        obtain ⟨y0, y1, y2, y3, y4, y5, y6, y7, y8, y9, y10⟩ := (HK.out _ H1.out).cells
        cases vx with
        | false =>
          have HE : Hid (nameB an rn ⟨k, f, r, u, xp, xn, yp, yn, xs, a, b⟩ = false) := by unfold Hid nameB; dsimp only; rw [HX.out]; simp
          go_wp2_with fail
          go_ret
          exact ⟨rb HE.out.symm, HB1.out⟩
        | true =>
          go_wp2_with fail
          refine (l6small_any yp yn an hn w1).mono ?_
          rintro e w2 ⟨rfl, hb2⟩
          have HB2 : Hid (Below w.heap.size w w2) := HB1.out.trans (hb2.mono HB1.out.size)
          have H2 : Hid (Below W.heap.size W w2) := H1.out.trans (hb2.mono H1.out.size)
          obtain ⟨vy, hvy⟩ : ∃ v, v = smallB an yp yn := ⟨_, rfl⟩
          rw [← hvy]
          have HY : Hid (smallB an yp yn = vy) := hvy.symm
          clear hb2 hvy z0 z1 z2 z3 y0 y1 y2 y3 y4 y5 y6 y7 y8 y9 y10
          obtain ⟨z0, z1, z2, z3, _⟩ := (HS.out _ H2.out).cells
          obtain ⟨y0, y1, y2, y3, y4, y5, y6, y7, y8, y9, y10⟩ := (HK.out _ H2.out).cells
          cases vy with
          | false =>
            have HE : Hid (nameB an rn ⟨k, f, r, u, xp, xn, yp, yn, xs, a, b⟩ = false) := by unfold Hid nameB; dsimp only; rw [HX.out, HY.out]; simp
            go_wp2_with fail
            go_ret
            exact ⟨rb HE.out.symm, HB2.out⟩
          | true =>
            have HE : Hid (nameB an rn ⟨k, f, r, u, xp, xn, yp, yn, xs, a, b⟩ = true) := by unfold Hid nameB roleOkB; dsimp only; rw [HAll.out, HX.out, HY.out, HN.out]; rfl
            go_wp2_with fail
            go_ret
            exact ⟨rb HE.out.symm, HB2.out⟩
end

end Go.Proofs.YtknainelonaigaaGreatDoor
