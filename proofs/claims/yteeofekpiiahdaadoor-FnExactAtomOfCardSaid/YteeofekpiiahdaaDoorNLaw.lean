/- Several texts in one: ClsLaw1, ClsLaw2, ClsLaw3. -/
import Derived.Test.YteeofekpiiahdaaDoorClsMem
import Derived.Test.YteeofekpiiahdaaDoorClLaw
import Derived.Test.YteeofekpiiahdaaDoorNSz
import Derived.Test.YteeofekpiiahdaaDoorNWd
import Derived.Test.YteeofekpiiahdaaDoorConTo
import Derived.RangeFuncBox
namespace Go.Proofs.YteeofekpiiahdaaDoor

section
open Go.RowKit

set_option maxRecDepth 100000 in
set_option maxHeartbeats 4000000 in
theorem szG_any {a : Option Addr} {n cap : Nat} {xs : List CL} {w : World} {lo hi : Nat} (h : RdG lo hi w a n cap xs) (hhi : hi ≤ w.heap.size) (left : Int) (h0 : 0 ≤ left) (h1 : left ≤ 1048576) :
    Calls Tryd.prog 17 #[.slice a n cap, .int .i64 left] w fun e w' => ∃ r : Int, e = .returned (.int .i64 r) ∧ r ≤ left ∧ (¬ r < 0 → n ≤ 1048576 ∧ ∀ i, i < n → (xs.getD i CL.zero).inds.length ≤ 1048576) ∧ Below w.heap.size w w' := by
  have HK : Hid (RdG lo hi w a n cap xs) := h
  have hf := h.fits
  clear h
  by_cases hbig : left < n
  · go_enter Tryd.func17, Tryd.ntmps17
    go_wp2_with fail
    go_ret
    exact ⟨-1, rfl, by omega, fun h => absurd h (by omega), Below.refl _ _⟩
  · go_enter Tryd.func17, Tryd.ntmps17
    go_wp2_with fail
    go_loopw [1, 5] (fun l i wr => ∃ (k : Nat) (L : Int), k ≤ n ∧ i = .int .i64 k ∧ l = .int .i64 L ∧ 0 ≤ L ∧ L ≤ left ∧ (∀ i, i < k → (xs.getD i CL.zero).inds.length ≤ 1048576) ∧ Below w.heap.size w wr) (fun _ i _ => n - (intOf i).toNat)
    case atStart => exact ⟨0, left - n, Nat.zero_le _, rfl, by go_num, by omega, by omega, fun i hi => absurd hi (by omega), Below.refl _ _⟩
    case round =>
      obtain ⟨k, L, hk, rfl, rfl, hL0, hL1, hs, hbel⟩ := hrel
      have HB : Hid (Below w.heap.size w wr) := hbel
      have HS : Hid (∀ i, i < k → (xs.getD i CL.zero).inds.length ≤ 1048576) := hs
      have hL2 : L ≤ 1048576 := by omega
      by_cases hlt : k < n
      · have hK := HK.out.below hbel hhi
        rcases hK.cells with hz | ⟨b, off, e1, _, _, hc⟩
        · omega
        · subst e1
          obtain ⟨ia, im, ic, q0, q1, q2, q3, q4, q5, q6, q7, q8, q9, q10, hrd⟩ := hc k hlt
          obtain ⟨x, hx⟩ : ∃ x, x = xs.getD k CL.zero := ⟨_, rfl⟩
          rw [← hx] at q0 q1 q2 q3 q4 q5 q6 q7 q9 q10 hrd
          have HX : Hid (x = xs.getD k CL.zero) := hx
          have HRd : Hid (RP lo hi wr ia im ic x.inds) := hrd
          have HIm : Hid (x.inds.length = im) := hrd.len
          have hki : (k : Int) < (n : Int) := by omega
          obtain ⟨xk, xf, xr, xu, xxp, xxn, xyp, xyn, xi, xa, xb⟩ := x
          dsimp only at q0 q1 q2 q3 q4 q5 q6 q7 q9 q10
          clear hK hc hrd hbel hs hx
          go_wp2_with fail
          refine (szK_any HRd.out L ⟨hL0, hL2⟩).mono ?_
          rintro e w' ⟨rfl, hb'⟩
          have HB' : Hid (Below w.heap.size w w') := HB.out.trans (hb'.mono HB.out.size)
          obtain ⟨r, hr⟩ : ∃ r, r = szRes L im := ⟨_, rfl⟩
          rw [← hr]
          have HR : Hid (r = szRes L im) := hr
          clear hb' hr
          by_cases hneg : r < 0
          · go_wp2_with fail
            go_ret
            exact ⟨-1, rfl, by omega, fun h => absurd h (by omega), HB'.out⟩
          · have HP : Hid ((im : Int) ≤ L ∧ r = L - im) := by unfold Hid; have := HR.out; rw [this] at hneg ⊢; exact szRes_pos hneg
            have HS' : Hid (∀ i, i < k + 1 → (xs.getD i CL.zero).inds.length ≤ 1048576) := fun i hi => by
              by_cases e : i = k
              · subst e
                rw [← HX.out]
                have h1 := HIm.out
                have h2 := HP.out.1
                dsimp only at h1 ⊢
                omega
              · exact HS.out i (by omega)
            have hr2 : r ≤ left := by have := HP.out.2; omega
            go_wp2_with fail
            go_roundw
            case rel => exact ⟨k + 1, r, by omega, by go_num, rfl, by omega, hr2, HS'.out, HB'.out⟩
            case measure => simp [intOf]; omega
      · have HE : Hid (∀ i, i < n → (xs.getD i CL.zero).inds.length ≤ 1048576) := fun i hi => hs i (by omega)
        clear hs hbel
        go_wp2_with fail
        go_ret
        exact ⟨_, rfl, hL1, fun _ => ⟨by omega, HE.out⟩, HB.out⟩

/-- What the count lets through. -/
def FitS (s : CS) (an rn wn ln : Nat) : Prop := (bulks s.atoms ≤ 1048576 ∧ an ≤ 1048576) ∧ (rn ≤ 1048576 ∧ ∀ i, i < rn → (s.roles.getD i []).length ≤ 1048576) ∧ (wn ≤ 1048576 ∧ ∀ i, i < wn → (s.who.getD i []).length ≤ 1048576) ∧ (ln ≤ 1048576 ∧ ∀ i, i < ln → (s.l.getD i CL.zero).inds.length ≤ 1048576)

set_option maxRecDepth 100000 in
set_option maxHeartbeats 2000000 in
theorem szS_any {d : Nat} {aa : Option Addr} {an ac : Nat} {ra : Option Addr} {rn rc : Nat} {wa : Option Addr} {wn wc : Nat} {la : Option Addr} {ln lc : Nat} {s : CS} {w : World} {lo hi : Nat} (h : RdS lo hi w d aa an ac ra rn rc wa wn wc la ln lc s) (hhi : hi ≤ w.heap.size) :
    Calls Tryd.prog 5 #[.agg #[.slice aa an ac, .slice ra rn rc, .slice wa wn wc, .slice la ln lc], .int .i64 1048576] w fun e w' => ∃ r : Int, e = .returned (.int .i64 r) ∧ r ≤ 1048576 ∧ (¬ r < 0 → FitS s an rn wn ln) ∧ Below w.heap.size w w' := by
  obtain ⟨W0, hW0⟩ : ∃ W0, W0 = w.alloc (.cells #[.slice aa an ac, .slice ra rn rc, .slice wa wn wc, .slice la ln lc] 26) := ⟨_, rfl⟩
  have HW0 : Hid (W0 = w.alloc (.cells #[.slice aa an ac, .slice ra rn rc, .slice wa wn wc, .slice la ln lc] 26)) := hW0
  have hb0 : Below w.heap.size w W0 := by rw [hW0]; exact (Below.refl _ _).alloc (Nat.le_refl _) _
  have HB0 : Hid (Below w.heap.size w W0) := hb0
  have hbx : Blk W0 w.heap.size 26 (.slice aa an ac) (.slice ra rn rc) (.slice wa wn wc) (.slice la ln lc) := by rw [hW0]; exact Blk.alloc_new w _ _ _ _ _ _ rfl
  have HBx : Hid (∀ V, Below W0.heap.size W0 V → Blk V w.heap.size 26 (.slice aa an ac) (.slice ra rn rc) (.slice wa wn wc) (.slice la ln lc)) := fun V hV => hbx.below hV hbx.lt
  have HR : Hid (∀ V, Below W0.heap.size W0 V → RdS lo hi V d aa an ac ra rn rc wa wn wc la ln lc s) := fun V hV => (h.below hb0 hhi).below hV (Nat.le_trans hhi hb0.size)
  have HAn : Hid (s.atoms.length = an) := h.atoms.len
  have hs0 : hi ≤ W0.heap.size := Nat.le_trans hhi hb0.size
  obtain ⟨z0, z1, z2, z3⟩ := hbx.cells
  clear h hb0 hW0 hbx
  go_enter Tryd.func5, Tryd.ntmps5
  go_upto_region 1 with fail
  rw [← HW0.out]
  go_wp2_with fail
  refine (szL_of (szC_any d) aa an ac s.atoms 1048576 W0 lo hi (HR.out _ (Below.refl _ _)).atoms hs0 (by omega) (by omega)).mono ?_
  rintro e w1 ⟨rfl, hb1⟩
  obtain ⟨r1, hr1⟩ : ∃ r, r = szRes 1048576 (bulks s.atoms) := ⟨_, rfl⟩
  rw [← hr1]
  have HR1 : Hid (r1 = szRes 1048576 (bulks s.atoms)) := hr1
  have H1 : Hid (Below W0.heap.size W0 w1) := hb1
  have s1 := hb1.size
  clear z0 z1 z2 z3 hr1
  obtain ⟨z0, z1, z2, z3⟩ := (HBx.out _ hb1).cells
  clear hb1
  by_cases n1 : r1 < 0
  · go_wp2_with fail
    go_ret
    exact ⟨-1, rfl, by omega, fun h => absurd h (by omega), HB0.out.trans (H1.out.mono HB0.out.size)⟩
  · have P1 : Hid (((bulks s.atoms : Nat) : Int) ≤ 1048576 ∧ r1 = 1048576 - (bulks s.atoms : Nat)) := by unfold Hid; have := HR1.out; rw [this] at n1 ⊢; exact szRes_pos n1
    have l1 : r1 ≤ 1048576 := by have := P1.out.2; omega
    go_wp2_with fail
    refine (szByteSS_any ra rn rc s.roles r1 w1 (HR.out _ H1.out).roles (by omega) (by omega)).mono ?_
    rintro e w2 ⟨r2, rfl, l2, f2, hw2⟩
    subst hw2
    have F2 : Hid (¬ r2 < 0 → rn ≤ 1048576 ∧ ∀ i, i < rn → (s.roles.getD i []).length ≤ 1048576) := f2
    clear f2
    by_cases n2 : r2 < 0
    · go_wp2_with fail
      go_ret
      exact ⟨-1, rfl, by omega, fun h => absurd h (by omega), HB0.out.trans (H1.out.mono HB0.out.size)⟩
    · go_wp2_with fail
      refine (szByteSS_any wa wn wc s.who r2 w2 (HR.out _ H1.out).who (by omega) (by omega)).mono ?_
      rintro e w3 ⟨r3, rfl, l3, f3, hw3⟩
      subst hw3
      have F3 : Hid (¬ r3 < 0 → wn ≤ 1048576 ∧ ∀ i, i < wn → (s.who.getD i []).length ≤ 1048576) := f3
      clear f3
      by_cases n3 : r3 < 0
      · go_wp2_with fail
        go_ret
        exact ⟨-1, rfl, by omega, fun h => absurd h (by omega), HB0.out.trans (H1.out.mono HB0.out.size)⟩
      · go_wp2_with fail
        refine (szG_any (HR.out _ H1.out).l (Nat.le_trans hs0 s1) r3 (by omega) (by omega)).mono ?_
        rintro e w4 ⟨r4, rfl, l4, f4, hb4⟩
        have F4 : Hid (¬ r4 < 0 → ln ≤ 1048576 ∧ ∀ i, i < ln → (s.l.getD i CL.zero).inds.length ≤ 1048576) := f4
        have H4 : Hid (Below w.heap.size w w4) := HB0.out.trans ((H1.out.trans (hb4.mono s1)).mono HB0.out.size)
        clear f4 hb4
        by_cases n4 : r4 < 0
        · go_wp2_with fail
          go_ret
          exact ⟨-1, rfl, by omega, fun h => absurd h (by omega), H4.out⟩
        · go_wp2_with fail
          go_ret
          exact ⟨_, rfl, by omega, fun _ => ⟨⟨by have := P1.out.1; omega, by have := P1.out.1; have := length_le_bulks s.atoms; have := HAn.out; omega⟩, F2.out n2, F3.out n3, F4.out n4⟩, H4.out⟩
end

section
open Go.RowKit

def put11 (F : Nat → Value) (p : Nat) (v0 v1 v2 v3 v4 v5 v6 v7 v8 v9 v10 : Value) (j : Nat) : Value := if j = p + 10 then v10 else if j = p + 9 then v9 else if j = p + 8 then v8 else if j = p + 7 then v7 else if j = p + 6 then v6 else if j = p + 5 then v5 else if j = p + 4 then v4 else if j = p + 3 then v3 else if j = p + 2 then v2 else if j = p + 1 then v1 else if j = p then v0 else F j
def set11o (W : World) (g p : Nat) (v0 v1 v2 v3 v4 v5 v6 v7 v8 v9 v10 : Value) : World := (((((((((((W.setCell ⟨g, p, none⟩ v0).setCell ⟨g, p + 1, none⟩ v1).setCell ⟨g, p + 2, none⟩ v2).setCell ⟨g, p + 3, none⟩ v3).setCell ⟨g, p + 4, none⟩ v4).setCell ⟨g, p + 5, none⟩ v5).setCell ⟨g, p + 6, none⟩ v6).setCell ⟨g, p + 7, none⟩ v7).setCell ⟨g, p + 8, none⟩ v8).setCell ⟨g, p + 9, none⟩ v9).setCell ⟨g, p + 10, none⟩ v10)
theorem row_put11 {W : World} {g t n p : Nat} {F : Nat → Value} (h : W.rowIs g t n F) (v0 v1 v2 v3 v4 v5 v6 v7 v8 v9 v10 : Value) : (set11o W g p v0 v1 v2 v3 v4 v5 v6 v7 v8 v9 v10).rowIs g t n (put11 F p v0 v1 v2 v3 v4 v5 v6 v7 v8 v9 v10) := (((((((((((h.set (p) v0).set (p + 1) v1).set (p + 2) v2).set (p + 3) v3).set (p + 4) v4).set (p + 5) v5).set (p + 6) v6).set (p + 7) v7).set (p + 8) v8).set (p + 9) v9).set (p + 10) v10)
theorem heap_set11o (W : World) {b g p : Nat} (v0 v1 v2 v3 v4 v5 v6 v7 v8 v9 v10 : Value) (hb : b ≠ g) : (set11o W g p v0 v1 v2 v3 v4 v5 v6 v7 v8 v9 v10).heap[b]? = W.heap[b]? := by
  unfold set11o
  rw [Below.heap_setCell _ ⟨g, p + 10, none⟩ _ b hb, Below.heap_setCell _ ⟨g, p + 9, none⟩ _ b hb, Below.heap_setCell _ ⟨g, p + 8, none⟩ _ b hb, Below.heap_setCell _ ⟨g, p + 7, none⟩ _ b hb, Below.heap_setCell _ ⟨g, p + 6, none⟩ _ b hb, Below.heap_setCell _ ⟨g, p + 5, none⟩ _ b hb, Below.heap_setCell _ ⟨g, p + 4, none⟩ _ b hb, Below.heap_setCell _ ⟨g, p + 3, none⟩ _ b hb, Below.heap_setCell _ ⟨g, p + 2, none⟩ _ b hb, Below.heap_setCell _ ⟨g, p + 1, none⟩ _ b hb, Below.heap_setCell _ ⟨g, p, none⟩ _ b hb]
theorem size_set11o (W : World) (g p : Nat) (v0 v1 v2 v3 v4 v5 v6 v7 v8 v9 v10 : Value) : (set11o W g p v0 v1 v2 v3 v4 v5 v6 v7 v8 v9 v10).heap.size = W.heap.size := by unfold set11o; simp
theorem below_set11o {B : Nat} {w W : World} (h : Below B w W) {g : Nat} (hg : B ≤ g) (p : Nat) (v0 v1 v2 v3 v4 v5 v6 v7 v8 v9 v10 : Value) : Below B w (set11o W g p v0 v1 v2 v3 v4 v5 v6 v7 v8 v9 v10) := by
  unfold set11o
  exact (((((((((((h.setCell (p := ⟨g, p, none⟩) hg _).setCell (p := ⟨g, p + 1, none⟩) hg _).setCell (p := ⟨g, p + 2, none⟩) hg _).setCell (p := ⟨g, p + 3, none⟩) hg _).setCell (p := ⟨g, p + 4, none⟩) hg _).setCell (p := ⟨g, p + 5, none⟩) hg _).setCell (p := ⟨g, p + 6, none⟩) hg _).setCell (p := ⟨g, p + 7, none⟩) hg _).setCell (p := ⟨g, p + 8, none⟩) hg _).setCell (p := ⟨g, p + 9, none⟩) hg _).setCell (p := ⟨g, p + 10, none⟩) hg _)
theorem put11_at (F : Nat → Value) (p : Nat) (v0 v1 v2 v3 v4 v5 v6 v7 v8 v9 v10 : Value) : put11 F p v0 v1 v2 v3 v4 v5 v6 v7 v8 v9 v10 (p) = v0 ∧ put11 F p v0 v1 v2 v3 v4 v5 v6 v7 v8 v9 v10 (p + 1) = v1 ∧ put11 F p v0 v1 v2 v3 v4 v5 v6 v7 v8 v9 v10 (p + 2) = v2 ∧ put11 F p v0 v1 v2 v3 v4 v5 v6 v7 v8 v9 v10 (p + 3) = v3 ∧ put11 F p v0 v1 v2 v3 v4 v5 v6 v7 v8 v9 v10 (p + 4) = v4 ∧ put11 F p v0 v1 v2 v3 v4 v5 v6 v7 v8 v9 v10 (p + 5) = v5 ∧ put11 F p v0 v1 v2 v3 v4 v5 v6 v7 v8 v9 v10 (p + 6) = v6 ∧ put11 F p v0 v1 v2 v3 v4 v5 v6 v7 v8 v9 v10 (p + 7) = v7 ∧ put11 F p v0 v1 v2 v3 v4 v5 v6 v7 v8 v9 v10 (p + 8) = v8 ∧ put11 F p v0 v1 v2 v3 v4 v5 v6 v7 v8 v9 v10 (p + 9) = v9 ∧ put11 F p v0 v1 v2 v3 v4 v5 v6 v7 v8 v9 v10 (p + 10) = v10 := by
  refine ⟨?_, ?_, ?_, ?_, ?_, ?_, ?_, ?_, ?_, ?_, ?_⟩ <;> simp [put11]
theorem put11_off (F : Nat → Value) {p j : Nat} (v0 v1 v2 v3 v4 v5 v6 v7 v8 v9 v10 : Value) (h : j < p) : put11 F p v0 v1 v2 v3 v4 v5 v6 v7 v8 v9 v10 j = F j := by
  unfold put11
  rw [if_neg (by omega), if_neg (by omega), if_neg (by omega), if_neg (by omega), if_neg (by omega), if_neg (by omega), if_neg (by omega), if_neg (by omega), if_neg (by omega), if_neg (by omega), if_neg (by omega)]

/-- Eleven values from here on read as this clause. -/
def ClF (F : Nat → Value) (o : Nat) (lo hi : Nat) (w : World) (x : CL) : Prop := ∃ (ia : Option Addr) (im ic : Nat), F (o) = .int .i64 x.kind ∧ F (o + 1) = .int .i64 x.fn ∧ F (o + 2) = .int .i64 x.role ∧ F (o + 3) = .int .i64 x.above ∧ F (o + 4) = .int .i64 x.xp ∧ F (o + 5) = .int .i64 x.xn ∧ F (o + 6) = .int .i64 x.yp ∧ F (o + 7) = .int .i64 x.yn ∧ F (o + 8) = .slice ia im ic ∧ F (o + 9) = .int .i64 x.a ∧ F (o + 10) = .int .i64 x.b ∧ RP lo hi w ia im ic x.inds

theorem ClF.carry {F G : Nat → Value} {o lo hi hi' : Nat} {w w' : World} {x : CL} (h : ClF F o lo hi w x) (hs : Same lo hi w w') (hh : hi ≤ hi') (e : ∀ j, o ≤ j → j < o + 11 → G j = F j) : ClF G o lo hi' w' x := by
  obtain ⟨ia, im, ic, q0, q1, q2, q3, q4, q5, q6, q7, q8, q9, q10, hr⟩ := h
  exact ⟨ia, im, ic, (e (o) (by omega) (by omega)).trans q0, (e (o + 1) (by omega) (by omega)).trans q1, (e (o + 2) (by omega) (by omega)).trans q2, (e (o + 3) (by omega) (by omega)).trans q3, (e (o + 4) (by omega) (by omega)).trans q4, (e (o + 5) (by omega) (by omega)).trans q5, (e (o + 6) (by omega) (by omega)).trans q6, (e (o + 7) (by omega) (by omega)).trans q7, (e (o + 8) (by omega) (by omega)).trans q8, (e (o + 9) (by omega) (by omega)).trans q9, (e (o + 10) (by omega) (by omega)).trans q10, (hr.same hs).mono (Nat.le_refl _) hh⟩

theorem Tryd.infoClause : (Tryd.prog.info? 56).map (fun i => (i.zero, i.size, i.bytes)) = some (some (.agg #[.int .i64 0, .int .i64 0, .int .i64 0, .int .i64 0, .int .i64 0, .int .i64 0, .int .i64 0, .int .i64 0, .slice none 0 0, .int .i64 0, .int .i64 0]), 11, 104) := by kernel_rfl

set_option maxRecDepth 100000 in
set_option maxHeartbeats 8000000 in
theorem toG_any {a : Option Addr} {n cap : Nat} {xs : List CL} {w : World} {lo hi : Nat} (h : RdG lo hi w a n cap xs) (hhi : hi ≤ w.heap.size) (hn1 : n ≤ 1048576) (hfit : ∀ i, i < n → (xs.getD i CL.zero).inds.length ≤ 1048576) :
    Calls Tryd.prog 25 #[.slice a n cap] w fun e w' => e = .returned (.slice (some ⟨w.heap.size, 0, none⟩) n n) ∧ RdG w.heap.size w'.heap.size w' (some ⟨w.heap.size, 0, none⟩) n n xs ∧ Below w.heap.size w w' := by
  have HR : Hid (RdG lo hi w a n cap xs) := h
  have HL : Hid (xs.length = n) := h.len
  have hf := h.fits
  have HFit : Hid (∀ i, i < n → (xs.getD i CL.zero).inds.length ≤ 1048576) := hfit
  have hmk : ∀ w : World, (Instr.makeSlice 30 (.int .i64 (n : Int)) (.int .i64 (n : Int))).run Tryd.prog w = .ok (.slice (some ⟨w.heap.size, 0, none⟩) n n) (w.alloc (.cells (madeCells #[.int .i64 0, .int .i64 0, .int .i64 0, .int .i64 0, .int .i64 0, .int .i64 0, .int .i64 0, .int .i64 0, .slice none 0 0, .int .i64 0, .int .i64 0] (n * 11)) 56)) := by
    intro w
    obtain ⟨i0, hi0, hz0, hz1, hz2⟩ := info_parts Tryd.infoClause
    have hr := run_make (P := Tryd.prog) w 30 56 i0 _ Tryd.underlying30 hi0 hz0 .i64 .i64 n n (by omega) (Int.le_refl _) (by rw [hz2]; omega) (by omega)
    simp only [Int.toNat_natCast, hz1] at hr
    exact hr
  obtain ⟨M, hM⟩ : ∃ M, M = madeCells #[.int .i64 0, .int .i64 0, .int .i64 0, .int .i64 0, .int .i64 0, .int .i64 0, .int .i64 0, .int .i64 0, .slice none 0 0, .int .i64 0, .int .i64 0] (n * 11) := ⟨_, rfl⟩
  rw [← hM] at hmk
  have hMs : M.size = n * 11 := by rw [hM, size_madeCells]
  have h0 : Hid ((w.alloc (.cells M 56)).rowIs w.heap.size 56 (n * 11) (fun i => M.getD i undef)) := by
    unfold Hid
    have key := World.rowIs_alloc w M 56 (fun i => M.getD i undef) (fun i hi => by simp [Array.getD, hi])
    rw [hMs] at key; exact key
  clear h hfit hM hMs
  go_enter Tryd.func25, Tryd.ntmps25
  go_wp2_with fail
  go_loopw [4] (fun i wr => ∃ (k : Nat) (F : Nat → Value), k ≤ n ∧ i = .int .i64 k ∧ wr.rowIs w.heap.size 56 (n * 11) F ∧ (∀ i, i < k → ClF F (i * 11) (w.heap.size + 1) wr.heap.size wr (xs.getD i CL.zero)) ∧ Below w.heap.size w wr) (fun i _ => n - (intOf i).toNat)
  case atStart => exact ⟨0, _, Nat.zero_le _, rfl, h0.out, fun i hi => absurd hi (by omega), (Below.refl _ _).alloc (Nat.le_refl _) _⟩
  case round =>
    obtain ⟨k, F, hk, rfl, hrow, hkd, hbel⟩ := hrel
    by_cases hlt : k < n
    · have hK := HR.out.below hbel hhi
      rcases hK.cells with hz | ⟨b, off, e1, _, hbh, hc⟩
      · omega
      · subst e1
        obtain ⟨ia, im, ic, q0, q1, q2, q3, q4, q5, q6, q7, q8, q9, q10, hrd⟩ := hc k hlt
        have hil := HFit.out k hlt
        obtain ⟨x, hx⟩ : ∃ x, x = xs.getD k CL.zero := ⟨_, rfl⟩
        rw [← hx] at q0 q1 q2 q3 q4 q5 q6 q7 q9 q10 hrd hil
        have HX : Hid (x = xs.getD k CL.zero) := hx
        obtain ⟨xk, xf, xr, xu, xxp, xxn, xyp, xyn, xi, xa, xb⟩ := x
        dsimp only at q0 q1 q2 q3 q4 q5 q6 q7 q9 q10 hrd hil
        have him : im ≤ 1048576 := by have := hrd.len; omega
        have HRd : Hid (RP lo hi wr ia im ic xi) := hrd
        have HKd : Hid (∀ i, i < k → ClF F (i * 11) (w.heap.size + 1) wr.heap.size wr (xs.getD i CL.zero)) := hkd
        have HB : Hid (Below w.heap.size w wr) := hbel
        have HRow : Hid (wr.rowIs w.heap.size 56 (n * 11) F) := hrow
        have hki : (k : Int) < (n : Int) := by omega
        have hlw := hrow.lt
        clear hK hc hrd hbel hrow hkd hx hil
        go_wp2_with fail
        refine (toK_any HRd.out (Nat.le_trans hhi HB.out.size) him).mono ?_
        rintro e w1 ⟨g, rfl, hx1, _, hb1⟩
        have hs1 := hb1.size
        have hrow1 : w1.rowIs w.heap.size 56 (n * 11) F := HRow.out.of_block (hb1.block _ hlw)
        have o0 := hrow1.cell (show k * 11 < n * 11 by omega)
        have o1 := hrow1.cell (show k * 11 + 1 < n * 11 by omega)
        have o2 := hrow1.cell (show k * 11 + 2 < n * 11 by omega)
        have o3 := hrow1.cell (show k * 11 + 3 < n * 11 by omega)
        have o4 := hrow1.cell (show k * 11 + 4 < n * 11 by omega)
        have o5 := hrow1.cell (show k * 11 + 5 < n * 11 by omega)
        have o6 := hrow1.cell (show k * 11 + 6 < n * 11 by omega)
        have o7 := hrow1.cell (show k * 11 + 7 < n * 11 by omega)
        have o8 := hrow1.cell (show k * 11 + 8 < n * 11 by omega)
        have o9 := hrow1.cell (show k * 11 + 9 < n * 11 by omega)
        have o10 := hrow1.cell (show k * 11 + 10 < n * 11 by omega)
        have df : ∀ o, w1.frozen? ⟨w.heap.size, o, none⟩ = false := fun o => hrow1.frozen o
        have HStep := row_put11 (p := k * 11) hrow1 (.int .i64 xk) (.int .i64 xf) (.int .i64 xr) (.int .i64 xu) (.int .i64 xxp) (.int .i64 xxn) (.int .i64 xyp) (.int .i64 xyn) (.slice (some ⟨g, 0, none⟩) im im) (.int .i64 xa) (.int .i64 xb)
        obtain ⟨w2, hw2⟩ : ∃ w2, w2 = set11o w1 w.heap.size (k * 11) (.int .i64 xk) (.int .i64 xf) (.int .i64 xr) (.int .i64 xu) (.int .i64 xxp) (.int .i64 xxn) (.int .i64 xyp) (.int .i64 xyn) (.slice (some ⟨g, 0, none⟩) im im) (.int .i64 xa) (.int .i64 xb) := ⟨_, rfl⟩
        have hsz2 : w2.heap.size = w1.heap.size := by rw [hw2]; exact size_set11o _ _ _ _ _ _ _ _ _ _ _ _ _ _
        have hS : Same (w.heap.size + 1) w1.heap.size w1 w2 := fun b h1 h2 => by rw [hw2]; exact heap_set11o _ _ _ _ _ _ _ _ _ _ _ _ (by omega)
        rw [← hw2] at HStep
        have HW2 : Hid (w2 = (((((((((((w1.setCell ⟨w.heap.size, k * 11, none⟩ (.int .i64 xk)).setCell ⟨w.heap.size, k * 11 + 1, none⟩ (.int .i64 xf)).setCell ⟨w.heap.size, k * 11 + 2, none⟩ (.int .i64 xr)).setCell ⟨w.heap.size, k * 11 + 3, none⟩ (.int .i64 xu)).setCell ⟨w.heap.size, k * 11 + 4, none⟩ (.int .i64 xxp)).setCell ⟨w.heap.size, k * 11 + 5, none⟩ (.int .i64 xxn)).setCell ⟨w.heap.size, k * 11 + 6, none⟩ (.int .i64 xyp)).setCell ⟨w.heap.size, k * 11 + 7, none⟩ (.int .i64 xyn)).setCell ⟨w.heap.size, k * 11 + 8, none⟩ (.slice (some ⟨g, 0, none⟩) im im)).setCell ⟨w.heap.size, k * 11 + 9, none⟩ (.int .i64 xa)).setCell ⟨w.heap.size, k * 11 + 10, none⟩ (.int .i64 xb))) := hw2
        have HRes : Hid (∃ (k' : Nat) (F' : Nat → Value), k' ≤ n ∧ Value.int .i64 ((k : Int) + 1) = .int .i64 k' ∧ w2.rowIs w.heap.size 56 (n * 11) F' ∧ (∀ i, i < k' → ClF F' (i * 11) (w.heap.size + 1) w2.heap.size w2 (xs.getD i CL.zero)) ∧ Below w.heap.size w w2) := by
          refine ⟨k + 1, _, by omega, by simp, HStep, ?_, ?_⟩
          · intro i hi
            rw [hsz2]
            by_cases e : i = k
            · subst e
              obtain ⟨p0, p1, p2, p3, p4, p5, p6, p7, p8, p9, p10⟩ := put11_at F (i * 11) (.int .i64 xk) (.int .i64 xf) (.int .i64 xr) (.int .i64 xu) (.int .i64 xxp) (.int .i64 xxn) (.int .i64 xyp) (.int .i64 xyn) (.slice (some ⟨g, 0, none⟩) im im) (.int .i64 xa) (.int .i64 xb)
              rw [← HX.out]
              exact ⟨_, _, _, p0, p1, p2, p3, p4, p5, p6, p7, p8, p9, p10, (hx1.mono (by omega) (Nat.le_refl _)).same hS⟩
            · refine ((HKd.out i (by omega)).carry (Same.of_below hb1 (Nat.le_refl _)) hs1 (fun j _ _ => rfl)).carry hS (Nat.le_refl _) (fun j h1 h2 => put11_off F _ _ _ _ _ _ _ _ _ _ _ (by omega))
          · rw [hw2]
            exact below_set11o (HB.out.trans (hb1.mono HB.out.size)) (Nat.le_refl _) _ _ _ _ _ _ _ _ _ _ _ _
        clear hrow1 hx1 hb1 HStep hS hw2 hsz2
        go_wp2_with fail
        rw [← HW2.out]
        go_roundw
        case rel => exact HRes.out
        case measure => simp [intOf]; omega
    · have hkn : k = n := by omega
      subst hkn
      have HF : Hid (RdG w.heap.size wr.heap.size wr (some ⟨w.heap.size, 0, none⟩) k k xs) := by
        refine ⟨HL.out, by omega, .inr ⟨_, _, rfl, Nat.le_refl _, hrow.lt, fun i hi => ?_⟩⟩
        obtain ⟨ia, im, ic, q0, q1, q2, q3, q4, q5, q6, q7, q8, q9, q10, hr⟩ := hkd i hi
        have t : ∀ (m : Nat) (v : Value), m < 11 → F (i * 11 + m) = v → wr.cell? ⟨w.heap.size, i * 11 + m, none⟩ = some v := fun m v hm e => by rw [hrow.cell (show i * 11 + m < k * 11 by omega), e]
        rw [Nat.zero_add]
        exact ⟨ia, im, ic, t 0 _ (by omega) q0, t 1 _ (by omega) q1, t 2 _ (by omega) q2, t 3 _ (by omega) q3, t 4 _ (by omega) q4, t 5 _ (by omega) q5, t 6 _ (by omega) q6, t 7 _ (by omega) q7, t 8 _ (by omega) q8, t 9 _ (by omega) q9, t 10 _ (by omega) q10, hr.mono (by omega) (Nat.le_refl _)⟩
      have HB : Hid (Below w.heap.size w wr) := hbel
      clear hrow hkd hbel
      go_wp2_with fail
      go_ret
      exact ⟨rfl, HF.out, HB.out⟩

set_option maxRecDepth 100000 in
set_option maxHeartbeats 4000000 in
theorem toS_any {d : Nat} {aa : Option Addr} {an ac : Nat} {ra : Option Addr} {rn rc : Nat} {wa : Option Addr} {wn wc : Nat} {la : Option Addr} {ln lc : Nat} {s : CS} {w : World} {lo hi : Nat} (h : RdS lo hi w d aa an ac ra rn rc wa wn wc la ln lc s) (hhi : hi ≤ w.heap.size) (hfit : FitS s an rn wn ln) :
    Calls Tryd.prog 7 #[.agg #[.slice aa an ac, .slice ra rn rc, .slice wa wn wc, .slice la ln lc]] w fun e w' => ∃ g0 g1 g2 g3, e = .returned (.agg #[.slice (some ⟨g0, 0, none⟩) an an, .slice (some ⟨g1, 0, none⟩) rn rn, .slice (some ⟨g2, 0, none⟩) wn wn, .slice (some ⟨g3, 0, none⟩) ln ln]) ∧ RdS w.heap.size w'.heap.size w' d (some ⟨g0, 0, none⟩) an an (some ⟨g1, 0, none⟩) rn rn (some ⟨g2, 0, none⟩) wn wn (some ⟨g3, 0, none⟩) ln ln s ∧ Below w.heap.size w w' := by
  obtain ⟨W0, hW0⟩ : ∃ W0, W0 = ((w.alloc (.cells #[.slice aa an ac, .slice ra rn rc, .slice wa wn wc, .slice la ln lc] 26)).alloc (.cells #[.slice none 0 0, .slice none 0 0, .slice none 0 0, .slice none 0 0] 32)).alloc (.cells #[.slice none 0 0, .slice none 0 0, .slice none 0 0, .slice none 0 0] 32) := ⟨_, rfl⟩
  have HW0 : Hid (W0 = ((w.alloc (.cells #[.slice aa an ac, .slice ra rn rc, .slice wa wn wc, .slice la ln lc] 26)).alloc (.cells #[.slice none 0 0, .slice none 0 0, .slice none 0 0, .slice none 0 0] 32)).alloc (.cells #[.slice none 0 0, .slice none 0 0, .slice none 0 0, .slice none 0 0] 32)) := hW0
  have hb0 : Below w.heap.size w W0 := by rw [hW0]; exact (((Below.refl _ _).alloc (Nat.le_refl _) _).alloc (by simp) _).alloc (by simp; omega) _
  have HB0 : Hid (Below w.heap.size w W0) := hb0
  have hs0 : w.heap.size + 3 ≤ W0.heap.size := by rw [hW0]; simp
  have hbx : Blk W0 w.heap.size 26 (.slice aa an ac) (.slice ra rn rc) (.slice wa wn wc) (.slice la ln lc) := by rw [hW0]; exact ((Blk.alloc_new w _ _ _ _ _ _ rfl).alloc _).alloc _
  have hbo : Blk W0 (w.heap.size + 1) 32 (.slice none 0 0) (.slice none 0 0) (.slice none 0 0) (.slice none 0 0) := by rw [hW0]; exact (Blk.alloc_new _ _ _ _ _ _ _ (by simp)).alloc _
  have hbt : Blk W0 (w.heap.size + 1 + 1) 32 (.slice none 0 0) (.slice none 0 0) (.slice none 0 0) (.slice none 0 0) := by rw [hW0]; exact Blk.alloc_new _ _ _ _ _ _ _ (by simp)
  have h00 : Hid (∀ V, Below w.heap.size w V → RdS lo hi V d aa an ac ra rn rc wa wn wc la ln lc s) := fun V hV => h.below hV hhi
  have HR0 : Hid (RdS lo hi W0 d aa an ac ra rn rc wa wn wc la ln lc s) := h.below hb0 hhi
  have hsz0 : hi ≤ W0.heap.size := by omega
  have HX0 : Hid (Blk W0 w.heap.size 26 (.slice aa an ac) (.slice ra rn rc) (.slice wa wn wc) (.slice la ln lc)) := hbx
  have HO0 : Hid (Blk W0 (w.heap.size + 1) 32 (.slice none 0 0) (.slice none 0 0) (.slice none 0 0) (.slice none 0 0)) := hbo
  have HT0 : Hid (Blk W0 (w.heap.size + 1 + 1) 32 (.slice none 0 0) (.slice none 0 0) (.slice none 0 0) (.slice none 0 0)) := hbt
  have HFit : Hid (FitS s an rn wn ln) := hfit
  obtain ⟨z0, z1, z2, z3, _⟩ := hbx.cells
  clear h hb0 hW0 hbx hbo hbt hfit
  go_enter Tryd.func7, Tryd.ntmps7
  go_upto_region 2 with fail
  rw [← HW0.out]
  go_wp2_with fail
  refine (toL_of (toC_any d) aa an ac s.atoms W0 lo hi HR0.out.atoms hsz0 HFit.out.1.1).mono ?_
  rintro e w1 ⟨rfl, hrd, _, hb⟩
  have hT := HT0.out.below hb (by omega)
  have hO := HO0.out.below hb (by omega)
  have hX := HX0.out.below hb (by omega)
  obtain ⟨V1, hV⟩ : ∃ V, V = w1.setCell ⟨w.heap.size + 1 + 1, 0, none⟩ (.slice (some ⟨W0.heap.size, 0, none⟩) an an) := ⟨_, rfl⟩
  have HV1 : Hid (V1 = w1.setCell ⟨w.heap.size + 1 + 1, 0, none⟩ (.slice (some ⟨W0.heap.size, 0, none⟩) an an)) := hV
  have hs := hb.size
  have hsV : V1.heap.size ≤ w1.heap.size := by rw [hV]; simp
  have hsV' : w1.heap.size ≤ V1.heap.size := by rw [hV]; simp
  have hB : Below w.heap.size w V1 := by rw [hV, below_set _ _ _ _ _ _ (by omega)]; exact HB0.out.trans (hb.mono (by omega))
  have HB1 : Hid (Below w.heap.size w V1) := hB
  have hSm : Same W0.heap.size w1.heap.size w1 V1 := fun b h1 h2 => by rw [hV]; exact Below.heap_setCell _ _ _ _ (by simp; omega)
  have HT1 : Hid (Blk V1 (w.heap.size + 1 + 1) 32 (.slice (some ⟨W0.heap.size, 0, none⟩) an an) (.slice none 0 0) (.slice none 0 0) (.slice none 0 0)) := by unfold Hid; rw [hV]; exact hT.set 0 _
  have HO1 : Hid (Blk V1 (w.heap.size + 1) 32 (.slice none 0 0) (.slice none 0 0) (.slice none 0 0) (.slice none 0 0)) := by unfold Hid; rw [hV]; exact hO.setOther (by simp) _
  have HX1 : Hid (Blk V1 w.heap.size 26 (.slice aa an ac) (.slice ra rn rc) (.slice wa wn wc) (.slice la ln lc)) := by unfold Hid; rw [hV]; exact hX.setOther (by simp; omega) _
  have HR1 : Hid (RdS lo hi V1 d aa an ac ra rn rc wa wn wc la ln lc s) := h00.out V1 hB
  have hsz1 : hi ≤ V1.heap.size := by omega
  have HD0 : Hid (RdL (RdC W0.heap.size w1.heap.size V1 d) W0.heap.size w1.heap.size V1 (some ⟨W0.heap.size, 0, none⟩) an an s.atoms) := hrd.same hSm
  obtain ⟨q0, q1, q2, q3, qf⟩ := hT.cells
  obtain ⟨y0, y1, y2, y3, _⟩ := hX.cells
  clear hT hO hX hV hB hSm hrd hb z0 z1 z2 z3
  go_upto_region 3 with fail
  rw [← HV1.out]
  clear q0 q1 q2 q3 qf y0 y1 y2 y3
  obtain ⟨z0, z1, z2, z3, _⟩ := HX1.out.cells
  go_wp2_with fail
  refine (toByteSS_any ra rn rc s.roles V1 HR1.out.roles hsz1 HFit.out.2.1.1 HFit.out.2.1.2).mono ?_
  rintro e w2 ⟨rfl, hrd, hb⟩
  have hT := HT1.out.below hb (by omega)
  have hO := HO1.out.below hb (by omega)
  have hX := HX1.out.below hb (by omega)
  obtain ⟨V2, hV⟩ : ∃ V, V = w2.setCell ⟨w.heap.size + 1 + 1, 1, none⟩ (.slice (some ⟨V1.heap.size, 0, none⟩) rn rn) := ⟨_, rfl⟩
  have HV2 : Hid (V2 = w2.setCell ⟨w.heap.size + 1 + 1, 1, none⟩ (.slice (some ⟨V1.heap.size, 0, none⟩) rn rn)) := hV
  have hs := hb.size
  have hsV : V2.heap.size ≤ w2.heap.size := by rw [hV]; simp
  have hsV' : w2.heap.size ≤ V2.heap.size := by rw [hV]; simp
  have hB : Below w.heap.size w V2 := by rw [hV, below_set _ _ _ _ _ _ (by omega)]; exact HB1.out.trans (hb.mono (by omega))
  have HB2 : Hid (Below w.heap.size w V2) := hB
  have hSm : Same V1.heap.size w2.heap.size w2 V2 := fun b h1 h2 => by rw [hV]; exact Below.heap_setCell _ _ _ _ (by simp; omega)
  have HT2 : Hid (Blk V2 (w.heap.size + 1 + 1) 32 (.slice (some ⟨W0.heap.size, 0, none⟩) an an) (.slice (some ⟨V1.heap.size, 0, none⟩) rn rn) (.slice none 0 0) (.slice none 0 0)) := by unfold Hid; rw [hV]; exact hT.set1 _
  have HO2 : Hid (Blk V2 (w.heap.size + 1) 32 (.slice none 0 0) (.slice none 0 0) (.slice none 0 0) (.slice none 0 0)) := by unfold Hid; rw [hV]; exact hO.setOther (by simp) _
  have HX2 : Hid (Blk V2 w.heap.size 26 (.slice aa an ac) (.slice ra rn rc) (.slice wa wn wc) (.slice la ln lc)) := by unfold Hid; rw [hV]; exact hX.setOther (by simp; omega) _
  have HR2 : Hid (RdS lo hi V2 d aa an ac ra rn rc wa wn wc la ln lc s) := h00.out V2 hB
  have hsz2 : hi ≤ V2.heap.size := by omega
  have HD1 : Hid (RSS V1.heap.size w2.heap.size V2 (some ⟨V1.heap.size, 0, none⟩) rn rn s.roles) := hrd.same hSm
  have HD0' : Hid (RdL (RdC W0.heap.size w1.heap.size V2 d) W0.heap.size w1.heap.size V2 (some ⟨W0.heap.size, 0, none⟩) an an s.atoms) := (HD0.out.same (Same.of_below hb (by omega))).same (fun b h1 h2 => by rw [hV]; exact Below.heap_setCell _ _ _ _ (by simp; omega))
  clear HD0
  have HD0 := HD0'
  clear HD0'
  obtain ⟨q0, q1, q2, q3, qf⟩ := hT.cells
  obtain ⟨y0, y1, y2, y3, _⟩ := hX.cells
  clear hT hO hX hV hB hSm hrd hb z0 z1 z2 z3
  go_upto_region 4 with fail
  rw [← HV2.out]
  clear q0 q1 q2 q3 qf y0 y1 y2 y3
  obtain ⟨z0, z1, z2, z3, _⟩ := HX2.out.cells
  go_wp2_with fail
  refine (toByteSS_any wa wn wc s.who V2 HR2.out.who hsz2 HFit.out.2.2.1.1 HFit.out.2.2.1.2).mono ?_
  rintro e w3 ⟨rfl, hrd, hb⟩
  have hT := HT2.out.below hb (by omega)
  have hO := HO2.out.below hb (by omega)
  have hX := HX2.out.below hb (by omega)
  obtain ⟨V3, hV⟩ : ∃ V, V = w3.setCell ⟨w.heap.size + 1 + 1, 2, none⟩ (.slice (some ⟨V2.heap.size, 0, none⟩) wn wn) := ⟨_, rfl⟩
  have HV3 : Hid (V3 = w3.setCell ⟨w.heap.size + 1 + 1, 2, none⟩ (.slice (some ⟨V2.heap.size, 0, none⟩) wn wn)) := hV
  have hs := hb.size
  have hsV : V3.heap.size ≤ w3.heap.size := by rw [hV]; simp
  have hsV' : w3.heap.size ≤ V3.heap.size := by rw [hV]; simp
  have hB : Below w.heap.size w V3 := by rw [hV, below_set _ _ _ _ _ _ (by omega)]; exact HB2.out.trans (hb.mono (by omega))
  have HB3 : Hid (Below w.heap.size w V3) := hB
  have hSm : Same V2.heap.size w3.heap.size w3 V3 := fun b h1 h2 => by rw [hV]; exact Below.heap_setCell _ _ _ _ (by simp; omega)
  have HT3 : Hid (Blk V3 (w.heap.size + 1 + 1) 32 (.slice (some ⟨W0.heap.size, 0, none⟩) an an) (.slice (some ⟨V1.heap.size, 0, none⟩) rn rn) (.slice (some ⟨V2.heap.size, 0, none⟩) wn wn) (.slice none 0 0)) := by unfold Hid; rw [hV]; exact hT.set2 _
  have HO3 : Hid (Blk V3 (w.heap.size + 1) 32 (.slice none 0 0) (.slice none 0 0) (.slice none 0 0) (.slice none 0 0)) := by unfold Hid; rw [hV]; exact hO.setOther (by simp) _
  have HX3 : Hid (Blk V3 w.heap.size 26 (.slice aa an ac) (.slice ra rn rc) (.slice wa wn wc) (.slice la ln lc)) := by unfold Hid; rw [hV]; exact hX.setOther (by simp; omega) _
  have HR3 : Hid (RdS lo hi V3 d aa an ac ra rn rc wa wn wc la ln lc s) := h00.out V3 hB
  have hsz3 : hi ≤ V3.heap.size := by omega
  have HD2 : Hid (RSS V2.heap.size w3.heap.size V3 (some ⟨V2.heap.size, 0, none⟩) wn wn s.who) := hrd.same hSm
  have HD0' : Hid (RdL (RdC W0.heap.size w1.heap.size V3 d) W0.heap.size w1.heap.size V3 (some ⟨W0.heap.size, 0, none⟩) an an s.atoms) := (HD0.out.same (Same.of_below hb (by omega))).same (fun b h1 h2 => by rw [hV]; exact Below.heap_setCell _ _ _ _ (by simp; omega))
  clear HD0
  have HD0 := HD0'
  clear HD0'
  have HD1' : Hid (RSS V1.heap.size w2.heap.size V3 (some ⟨V1.heap.size, 0, none⟩) rn rn s.roles) := (HD1.out.same (Same.of_below hb (by omega))).same (fun b h1 h2 => by rw [hV]; exact Below.heap_setCell _ _ _ _ (by simp; omega))
  clear HD1
  have HD1 := HD1'
  clear HD1'
  obtain ⟨q0, q1, q2, q3, qf⟩ := hT.cells
  obtain ⟨y0, y1, y2, y3, _⟩ := hX.cells
  clear hT hO hX hV hB hSm hrd hb z0 z1 z2 z3
  go_upto_region 5 with fail
  rw [← HV3.out]
  clear q0 q1 q2 q3 qf y0 y1 y2 y3
  obtain ⟨z0, z1, z2, z3, _⟩ := HX3.out.cells
  go_wp2_with fail
  refine (toG_any HR3.out.l hsz3 HFit.out.2.2.2.1 HFit.out.2.2.2.2).mono ?_
  rintro e w4 ⟨rfl, hrd, hb⟩
  have hT := HT3.out.below hb (by omega)
  have hO := HO3.out.below hb (by omega)
  have hX := HX3.out.below hb (by omega)
  have hs := hb.size
  have HB4 : Hid (Below w.heap.size w w4) := HB3.out.trans (hb.mono (by omega))
  have HD3 : Hid (RdG V3.heap.size w4.heap.size w4 (some ⟨V3.heap.size, 0, none⟩) ln ln s.l) := hrd
  have HE0 : Hid (RdL (RdC W0.heap.size w1.heap.size w4 d) W0.heap.size w1.heap.size w4 (some ⟨W0.heap.size, 0, none⟩) an an s.atoms) := HD0.out.same (Same.of_below hb (by omega))
  have HE1 : Hid (RSS V1.heap.size w2.heap.size w4 (some ⟨V1.heap.size, 0, none⟩) rn rn s.roles) := HD1.out.same (Same.of_below hb (by omega))
  have HE2 : Hid (RSS V2.heap.size w3.heap.size w4 (some ⟨V2.heap.size, 0, none⟩) wn wn s.who) := HD2.out.same (Same.of_below hb (by omega))
  obtain ⟨q0, q1, q2, q3, qf⟩ := hT.cells
  obtain ⟨p0, p1, p2, p3, pf⟩ := hO.cells
  clear hT hO hX hrd hb z0 z1 z2 z3
  go_wp2_with fail
  have hS : Same W0.heap.size w4.heap.size w4 (((((w4.setCell ⟨w.heap.size + 1 + 1, 3, none⟩ (.slice (some ⟨V3.heap.size, 0, none⟩) ln ln)).setCell ⟨w.heap.size + 1, 0, none⟩ (.slice (some ⟨W0.heap.size, 0, none⟩) an an)).setCell ⟨w.heap.size + 1, 1, none⟩ (.slice (some ⟨V1.heap.size, 0, none⟩) rn rn)).setCell ⟨w.heap.size + 1, 2, none⟩ (.slice (some ⟨V2.heap.size, 0, none⟩) wn wn)).setCell ⟨w.heap.size + 1, 3, none⟩ (.slice (some ⟨V3.heap.size, 0, none⟩) ln ln)) := by
    intro b h1 h2
    rw [Below.heap_setCell _ _ _ _ (by simp; omega), Below.heap_setCell _ _ _ _ (by simp; omega), Below.heap_setCell _ _ _ _ (by simp; omega), Below.heap_setCell _ _ _ _ (by simp; omega), Below.heap_setCell _ _ _ _ (by simp; omega)]
  have hsz : (((((w4.setCell ⟨w.heap.size + 1 + 1, 3, none⟩ (.slice (some ⟨V3.heap.size, 0, none⟩) ln ln)).setCell ⟨w.heap.size + 1, 0, none⟩ (.slice (some ⟨W0.heap.size, 0, none⟩) an an)).setCell ⟨w.heap.size + 1, 1, none⟩ (.slice (some ⟨V1.heap.size, 0, none⟩) rn rn)).setCell ⟨w.heap.size + 1, 2, none⟩ (.slice (some ⟨V2.heap.size, 0, none⟩) wn wn)).setCell ⟨w.heap.size + 1, 3, none⟩ (.slice (some ⟨V3.heap.size, 0, none⟩) ln ln)).heap.size = w4.heap.size := by simp
  refine bodyPost_ret (v := .agg #[.slice (some ⟨W0.heap.size, 0, none⟩) an an, .slice (some ⟨V1.heap.size, 0, none⟩) rn rn, .slice (some ⟨V2.heap.size, 0, none⟩) wn wn, .slice (some ⟨V3.heap.size, 0, none⟩) ln ln]) (by simp [results, Tryd.results7, go_sem, p0, p1, p2, p3]) rfl ⟨_, _, _, _, rfl, ?_, ?_⟩
  · rw [hsz]
    exact ⟨HE0.out.imp (fun v c h => (h.same (hS.mono (by omega) (by omega))).mono (by omega) (by omega)) (hS.mono (by omega) (by omega)) (by omega) (by omega), (HE1.out.same (hS.mono (by omega) (by omega))).mono (by omega) (by omega), (HE2.out.same (hS.mono (by omega) (by omega))).mono (by omega) (by omega), (HD3.out.same (hS.mono (by omega) (by omega))).mono (by omega) (by omega)⟩
  · simp only [below_set _ _ _ _ _ _ (show w.heap.size ≤ w.heap.size + 1 by omega), below_set _ _ _ _ _ _ (show w.heap.size ≤ w.heap.size + 1 + 1 by omega)]
    exact HB4.out
end

section
open Go.RowKit

theorem below_drewG (w : World) : Below w.heap.size w w.drew := (Below.refl _ _).drew

set_option maxRecDepth 100000 in
set_option maxHeartbeats 8000000 in
theorem eqG_any {a : Option Addr} {n cap : Nat} {xs : List CL} {w : World} {lo hi : Nat} {a' : Option Addr} {cap' lo' hi' : Nat} (h : RdG lo hi w a n cap xs) (h' : RdG lo' hi' w a' n cap' xs) (hhi : hi ≤ w.heap.size) (hhi' : hi' ≤ w.heap.size) :
    Calls Tryd.prog 34 #[.slice a n cap, .slice a' n cap'] w fun e w' => e = .returned (.bool true) ∧ Below w.heap.size w w' := by
  have HK : Hid (RdG lo hi w a n cap xs) := h
  have HK' : Hid (RdG lo' hi' w a' n cap' xs) := h'
  have hf := h.fits
  have hf' := h'.fits
  clear h h'
  go_enter Tryd.func34, Tryd.ntmps34
  go_wp2_with fail
  go_loopw [5] (fun i wr => ∃ k : Nat, k ≤ n ∧ i = .int .i64 k ∧ Below w.heap.size w wr) (fun i _ => n - (intOf i).toNat)
  case atStart => exact ⟨0, Nat.zero_le _, rfl, Below.refl _ _⟩
  case round =>
    obtain ⟨k, hk, rfl, hbel⟩ := hrel
    have HB : Hid (Below w.heap.size w wr) := hbel
    by_cases hlt : k < n
    · have hK := HK.out.below hbel hhi
      have hK' := HK'.out.below hbel hhi'
      rcases hK.cells with hz | ⟨b, off, e1, _, hbh, hc⟩
      · omega
      · rcases hK'.cells with hz | ⟨b', off', e1', _, hbh', hc'⟩
        · omega
        · subst e1 e1'
          obtain ⟨ia, im, ic, q0, q1, q2, q3, q4, q5, q6, q7, q8, q9, q10, hrd⟩ := hc k hlt
          obtain ⟨ia', im', ic', q0', q1', q2', q3', q4', q5', q6', q7', q8', q9', q10', hrd'⟩ := hc' k hlt
          obtain ⟨x, hx⟩ : ∃ x, x = xs.getD k CL.zero := ⟨_, rfl⟩
          rw [← hx] at q0 q1 q2 q3 q4 q5 q6 q7 q9 q10 hrd q0' q1' q2' q3' q4' q5' q6' q7' q9' q10' hrd'
          obtain ⟨xk, xf, xr, xu, xxp, xxn, xyp, xyn, xi, xa, xb⟩ := x
          dsimp only at q0 q1 q2 q3 q4 q5 q6 q7 q9 q10 hrd q0' q1' q2' q3' q4' q5' q6' q7' q9' q10' hrd'
          obtain rfl : im = im' := by have h1 := hrd.len; have h2 := hrd'.len; omega
          have HRd : Hid (RP lo hi wr.drew ia im ic xi) := hrd.same (fun _ _ _ => rfl)
          have HRd' : Hid (RP lo' hi' wr.drew ia' im ic' xi) := hrd'.same (fun _ _ _ => rfl)
          have hki : (k : Int) < (n : Int) := by omega
          have hh1 : hi ≤ wr.heap.size := Nat.le_trans hhi hbel.size
          have hh2 : hi' ≤ wr.heap.size := Nat.le_trans hhi' hbel.size
          clear hK hK' hc hc' hrd hrd' hbel hx
          go_upto_region 6 with fail
          first | go_region_with (first
            | (go_at_call 59; refine (eqK_any HRd.out HRd'.out hh1 hh2).mono ?_; rintro e w7 ⟨rfl, hb7⟩; have H7 : Hid (Below w.heap.size w w7) := HB.out.trans ((below_drewG wr).trans hb7 |>.mono HB.out.size); clear hb7)) | fail
          all_goals
            go_wp2_with fail
            go_roundw
            case rel => exact ⟨k + 1, by omega, by go_num, H7.out⟩
            case measure => simp [intOf]; omega
    · clear hbel
      go_wp2_with fail
      go_ret
      exact ⟨rfl, HB.out⟩

set_option maxRecDepth 100000 in
set_option maxHeartbeats 2000000 in
theorem eqS_any {d : Nat} {aa : Option Addr} {an ac : Nat} {ra : Option Addr} {rn rc : Nat} {wa : Option Addr} {wn wc : Nat} {la : Option Addr} {ln lc : Nat} {s : CS} {w : World} {lo hi : Nat} {d' : Nat} {aa' : Option Addr} {ac' : Nat} {ra' : Option Addr} {rc' : Nat} {wa' : Option Addr} {wc' : Nat} {la' : Option Addr} {lc' : Nat} {lo' hi' : Nat} (h : RdS lo hi w d aa an ac ra rn rc wa wn wc la ln lc s) (h' : RdS lo' hi' w d' aa' an ac' ra' rn rc' wa' wn wc' la' ln lc' s) (hhi : hi ≤ w.heap.size) (hhi' : hi' ≤ w.heap.size) :
    Calls Tryd.prog 9 #[.agg #[.slice aa an ac, .slice ra rn rc, .slice wa wn wc, .slice la ln lc], .agg #[.slice aa' an ac', .slice ra' rn rc', .slice wa' wn wc', .slice la' ln lc']] w fun e w' => e = .returned (.bool true) ∧ Below w.heap.size w w' := by
  obtain ⟨W0, hW0⟩ : ∃ W0, W0 = (w.alloc (.cells #[.slice aa an ac, .slice ra rn rc, .slice wa wn wc, .slice la ln lc] 32)).alloc (.cells #[.slice aa' an ac', .slice ra' rn rc', .slice wa' wn wc', .slice la' ln lc'] 32) := ⟨_, rfl⟩
  have HW0 : Hid (W0 = (w.alloc (.cells #[.slice aa an ac, .slice ra rn rc, .slice wa wn wc, .slice la ln lc] 32)).alloc (.cells #[.slice aa' an ac', .slice ra' rn rc', .slice wa' wn wc', .slice la' ln lc'] 32)) := hW0
  have hb0 : Below w.heap.size w W0 := by rw [hW0]; exact ((Below.refl _ _).alloc (Nat.le_refl _) _).alloc (by simp) _
  have HB0 : Hid (Below w.heap.size w W0) := hb0
  have hs0 := hb0.size
  have hbx : Blk W0 w.heap.size 32 (.slice aa an ac) (.slice ra rn rc) (.slice wa wn wc) (.slice la ln lc) := by rw [hW0]; exact (Blk.alloc_new w _ _ _ _ _ _ rfl).alloc _
  have hby : Blk W0 (w.heap.size + 1) 32 (.slice aa' an ac') (.slice ra' rn rc') (.slice wa' wn wc') (.slice la' ln lc') := by rw [hW0]; exact Blk.alloc_new _ _ _ _ _ _ _ (by simp)
  have HX : Hid (∀ V, Below W0.heap.size W0 V → Blk V w.heap.size 32 (.slice aa an ac) (.slice ra rn rc) (.slice wa wn wc) (.slice la ln lc)) := fun V hV => hbx.below hV hbx.lt
  have HY : Hid (∀ V, Below W0.heap.size W0 V → Blk V (w.heap.size + 1) 32 (.slice aa' an ac') (.slice ra' rn rc') (.slice wa' wn wc') (.slice la' ln lc')) := fun V hV => hby.below hV hby.lt
  have HR : Hid (∀ V, Below W0.heap.size W0 V → RdS lo hi V d aa an ac ra rn rc wa wn wc la ln lc s) := fun V hV => (h.below hb0 hhi).below hV (by omega)
  have HR' : Hid (∀ V, Below W0.heap.size W0 V → RdS lo' hi' V d' aa' an ac' ra' rn rc' wa' wn wc' la' ln lc' s) := fun V hV => (h'.below hb0 hhi').below hV (by omega)
  obtain ⟨z0, z1, z2, z3, _⟩ := hbx.cells
  obtain ⟨y0, y1, y2, y3, _⟩ := hby.cells
  clear h h' hb0 hW0 hbx hby
  go_enter Tryd.func9, Tryd.ntmps9
  go_upto_region 1 with fail
  rw [← HW0.out]
  go_wp2_with fail
  have H0 : Hid (Below W0.heap.size W0 W0) := Below.refl _ _
  refine (eqL_of (eqC_any d) aa aa' an ac ac' s.atoms d' W0 lo hi lo' hi' (HR.out _ H0.out).atoms (HR'.out _ H0.out).atoms (by omega) (by omega)).mono ?_
  rintro e w1 ⟨rfl, hb1⟩
  have H1 : Hid (Below W0.heap.size W0 w1) := hb1
  have s1 := hb1.size
  clear hb1 z0 z1 z2 z3 y0 y1 y2 y3
  obtain ⟨z0, z1, z2, z3, _⟩ := (HX.out _ H1.out).cells
  obtain ⟨y0, y1, y2, y3, _⟩ := (HY.out _ H1.out).cells
  go_wp2_with fail
  refine (eqByteSS_any ra ra' rn rc rc' s.roles w1 (HR.out _ H1.out).roles (HR'.out _ H1.out).roles (by omega) (by omega)).mono ?_
  rintro e w2 ⟨rfl, hb2⟩
  have H2 : Hid (Below W0.heap.size W0 w2) := H1.out.trans (hb2.mono (by omega))
  have s2 := hb2.size
  clear hb2 z0 z1 z2 z3 y0 y1 y2 y3
  obtain ⟨z0, z1, z2, z3, _⟩ := (HX.out _ H2.out).cells
  obtain ⟨y0, y1, y2, y3, _⟩ := (HY.out _ H2.out).cells
  go_wp2_with fail
  refine (eqByteSS_any wa wa' wn wc wc' s.who w2 (HR.out _ H2.out).who (HR'.out _ H2.out).who (by omega) (by omega)).mono ?_
  rintro e w3 ⟨rfl, hb3⟩
  have H3 : Hid (Below W0.heap.size W0 w3) := H2.out.trans (hb3.mono (by omega))
  have s3 := hb3.size
  clear hb3 z0 z1 z2 z3 y0 y1 y2 y3
  obtain ⟨z0, z1, z2, z3, _⟩ := (HX.out _ H3.out).cells
  obtain ⟨y0, y1, y2, y3, _⟩ := (HY.out _ H3.out).cells
  go_wp2_with fail
  refine (eqG_any (HR.out _ H3.out).l (HR'.out _ H3.out).l (by omega) (by omega)).mono ?_
  rintro e w4 ⟨rfl, hb4⟩
  have H4 : Hid (Below W0.heap.size W0 w4) := H3.out.trans (hb4.mono (by omega))
  clear hb4
  go_wp2_with fail
  go_ret
  exact ⟨rfl, HB0.out.trans (H4.out.mono hs0)⟩
end

end Go.Proofs.YteeofekpiiahdaaDoor
