/- Several texts in one: ClsLaw1, ClsLaw2, ClsLaw3. -/
import Derived.Test.YtknainelonaigaaGreatDoorClsMem
import Derived.Test.YtknainelonaigaaGreatDoorClLaw
import Derived.Test.YtknainelonaigaaGreatDoorNSz
import Derived.Test.YtknainelonaigaaGreatDoorNWd
import Derived.Test.YtknainelonaigaaGreatDoorConTo
import Derived.RangeFuncBox
namespace Go.Proofs.YtknainelonaigaaGreatDoor

section
open Go.RowKit

set_option maxRecDepth 100000 in
set_option maxHeartbeats 4000000 in
theorem szG_any {a : Option Addr} {n cap : Nat} {xs : List CL} {w : World} {lo hi : Nat} (h : RdG lo hi w a n cap xs) (hhi : hi ≤ w.heap.size) (left : Int) (h0 : 0 ≤ left) (h1 : left ≤ 1048576) :
    Calls Tryz.prog 15 #[.slice a n cap, .int .i64 left] w fun e w' => ∃ r : Int, e = .returned (.int .i64 r) ∧ r ≤ left ∧ (¬ r < 0 → n ≤ 1048576 ∧ ∀ i, i < n → (xs.getD i CL.zero).inds.length ≤ 1048576) ∧ Below w.heap.size w w' := by
  have HK : Hid (RdG lo hi w a n cap xs) := h
  have hf := h.fits
  clear h
  by_cases hbig : left < n
  · go_enter Tryz.func15, Tryz.ntmps15
    go_wp2_with fail
    go_ret
    exact ⟨-1, rfl, by omega, fun h => absurd h (by omega), Below.refl _ _⟩
  · go_enter Tryz.func15, Tryz.ntmps15
    go_wp2_with fail
    go_loopw [1, 5] (fun l i wr => ∃ (k : Nat) (L : Int), k ≤ n ∧ i = .int .i64 k ∧ l = .int .i64 L ∧ 0 ≤ L ∧ L ≤ left ∧ (∀ i, i < k → (xs.getD i CL.zero).inds.length ≤ 1048576) ∧ Below w.heap.size w wr) (fun _ i _ => n - (intOf i).toNat)
    case atStart => exact ⟨0, left - n, Nat.zero_le _, rfl, by go_num, by omega, by omega, fun i hi => absurd hi (by omega), Below.refl _ _⟩
    case round =>
      obtain ⟨k, L, hk, rfl, rfl, hL0, hL1, hs, hbel⟩ := hrel
      have HB : Hid (Below w.heap.size w wr) := hbel
      have HS : Hid (∀ i, i < k → (xs.getD i CL.zero).inds.length ≤ 1048576) := hs
      have hL2 : L ≤ 1048576 := by omega
      by_cases hlt : k < n
      · have hK := HK.out.below hbel hhi
        rcases hK.cells with hz | ⟨b, off, e1, _, _, hc⟩
        · omega
        · subst e1
          obtain ⟨ia, im, ic, q0, q1, q2, q3, q4, q5, q6, q7, q8, q9, q10, hrd⟩ := hc k hlt
          obtain ⟨x, hx⟩ : ∃ x, x = xs.getD k CL.zero := ⟨_, rfl⟩
          rw [← hx] at q0 q1 q2 q3 q4 q5 q6 q7 q9 q10 hrd
          have HX : Hid (x = xs.getD k CL.zero) := hx
          have HRd : Hid (RP lo hi wr ia im ic x.inds) := hrd
          have HIm : Hid (x.inds.length = im) := hrd.len
          have hki : (k : Int) < (n : Int) := by omega
          obtain ⟨xk, xf, xr, xu, xxp, xxn, xyp, xyn, xi, xa, xb⟩ := x
          dsimp only at q0 q1 q2 q3 q4 q5 q6 q7 q9 q10
          clear hK hc hrd hbel hs hx
          go_wp2_with fail
          refine (szK_any HRd.out L ⟨hL0, hL2⟩).mono ?_
          rintro e w' ⟨rfl, hb'⟩
          have HB' : Hid (Below w.heap.size w w') := HB.out.trans (hb'.mono HB.out.size)
          obtain ⟨r, hr⟩ : ∃ r, r = szRes L im := ⟨_, rfl⟩
          rw [← hr]
          have HR : Hid (r = szRes L im) := hr
          clear hb' hr
          by_cases hneg : r < 0
          · go_wp2_with fail
            go_ret
            exact ⟨-1, rfl, by omega, fun h => absurd h (by omega), HB'.out⟩
          · have HP : Hid ((im : Int) ≤ L ∧ r = L - im) := by unfold Hid; have := HR.out; rw [this] at hneg ⊢; exact szRes_pos hneg
            have HS' : Hid (∀ i, i < k + 1 → (xs.getD i CL.zero).inds.length ≤ 1048576) := fun i hi => by
              by_cases e : i = k
              · subst e
                rw [← HX.out]
                have h1 := HIm.out
                have h2 := HP.out.1
                dsimp only at h1 ⊢
                omega
              · exact HS.out i (by omega)
            have hr2 : r ≤ left := by have := HP.out.2; omega
            go_wp2_with fail
            go_roundw
            case rel => exact ⟨k + 1, r, by omega, by go_num, rfl, by omega, hr2, HS'.out, HB'.out⟩
            case measure => simp [intOf]; omega
      · have HE : Hid (∀ i, i < n → (xs.getD i CL.zero).inds.length ≤ 1048576) := fun i hi => hs i (by omega)
        clear hs hbel
        go_wp2_with fail
        go_ret
        exact ⟨_, rfl, hL1, fun _ => ⟨by omega, HE.out⟩, HB.out⟩

/-- What the count lets through. -/
def FitS (s : CS) (an rn wn ln : Nat) : Prop := (bulks s.atoms ≤ 1048576 ∧ an ≤ 1048576) ∧ (rn ≤ 1048576 ∧ ∀ i, i < rn → (s.roles.getD i []).length ≤ 1048576) ∧ (wn ≤ 1048576 ∧ ∀ i, i < wn → (s.who.getD i []).length ≤ 1048576) ∧ (ln ≤ 1048576 ∧ ∀ i, i < ln → (s.l.getD i CL.zero).inds.length ≤ 1048576)

set_option maxRecDepth 100000 in
set_option maxHeartbeats 2000000 in
theorem szS_any {d : Nat} {aa : Option Addr} {an ac : Nat} {ra : Option Addr} {rn rc : Nat} {wa : Option Addr} {wn wc : Nat} {la : Option Addr} {ln lc : Nat} {s : CS} {w : World} {lo hi : Nat} (h : RdS lo hi w d aa an ac ra rn rc wa wn wc la ln lc s) (hhi : hi ≤ w.heap.size) :
    Calls Tryz.prog 4 #[.agg #[.slice aa an ac, .slice ra rn rc, .slice wa wn wc, .slice la ln lc], .int .i64 1048576] w fun e w' => ∃ r : Int, e = .returned (.int .i64 r) ∧ r ≤ 1048576 ∧ (¬ r < 0 → FitS s an rn wn ln) ∧ Below w.heap.size w w' := by
  obtain ⟨W0, hW0⟩ : ∃ W0, W0 = w.alloc (.cells #[.slice aa an ac, .slice ra rn rc, .slice wa wn wc, .slice la ln lc] 26) := ⟨_, rfl⟩
  have HW0 : Hid (W0 = w.alloc (.cells #[.slice aa an ac, .slice ra rn rc, .slice wa wn wc, .slice la ln lc] 26)) := hW0
  have hb0 : Below w.heap.size w W0 := by rw [hW0]; exact (Below.refl _ _).alloc (Nat.le_refl _) _
  have HB0 : Hid (Below w.heap.size w W0) := hb0
  have hbx : Blk W0 w.heap.size 26 (.slice aa an ac) (.slice ra rn rc) (.slice wa wn wc) (.slice la ln lc) := by rw [hW0]; exact Blk.alloc_new w _ _ _ _ _ _ rfl
  have HBx : Hid (∀ V, Below W0.heap.size W0 V → Blk V w.heap.size 26 (.slice aa an ac) (.slice ra rn rc) (.slice wa wn wc) (.slice la ln lc)) := fun V hV => hbx.below hV hbx.lt
  have HR : Hid (∀ V, Below W0.heap.size W0 V → RdS lo hi V d aa an ac ra rn rc wa wn wc la ln lc s) := fun V hV => (h.below hb0 hhi).below hV (Nat.le_trans hhi hb0.size)
  have HAn : Hid (s.atoms.length = an) := h.atoms.len
  have hs0 : hi ≤ W0.heap.size := Nat.le_trans hhi hb0.size
  obtain ⟨z0, z1, z2, z3⟩ := hbx.cells
  clear h hb0 hW0 hbx
  go_enter Tryz.func4, Tryz.ntmps4
  go_upto_region 1 with fail
  rw [← HW0.out]
  go_wp2_with fail
  refine (szL_of (szC_any d) aa an ac s.atoms 1048576 W0 lo hi (HR.out _ (Below.refl _ _)).atoms hs0 (by omega) (by omega)).mono ?_
  rintro e w1 ⟨rfl, hb1⟩
  obtain ⟨r1, hr1⟩ : ∃ r, r = szRes 1048576 (bulks s.atoms) := ⟨_, rfl⟩
  rw [← hr1]
  have HR1 : Hid (r1 = szRes 1048576 (bulks s.atoms)) := hr1
  have H1 : Hid (Below W0.heap.size W0 w1) := hb1
  have s1 := hb1.size
  clear z0 z1 z2 z3 hr1
  obtain ⟨z0, z1, z2, z3⟩ := (HBx.out _ hb1).cells
  clear hb1
  by_cases n1 : r1 < 0
  · go_wp2_with fail
    go_ret
    exact ⟨-1, rfl, by omega, fun h => absurd h (by omega), HB0.out.trans (H1.out.mono HB0.out.size)⟩
  · have P1 : Hid (((bulks s.atoms : Nat) : Int) ≤ 1048576 ∧ r1 = 1048576 - (bulks s.atoms : Nat)) := by unfold Hid; have := HR1.out; rw [this] at n1 ⊢; exact szRes_pos n1
    have l1 : r1 ≤ 1048576 := by have := P1.out.2; omega
    go_wp2_with fail
    refine (szByteSS_any ra rn rc s.roles r1 w1 (HR.out _ H1.out).roles (by omega) (by omega)).mono ?_
    rintro e w2 ⟨r2, rfl, l2, f2, hw2⟩
    subst hw2
    have F2 : Hid (¬ r2 < 0 → rn ≤ 1048576 ∧ ∀ i, i < rn → (s.roles.getD i []).length ≤ 1048576) := f2
    clear f2
    by_cases n2 : r2 < 0
    · go_wp2_with fail
      go_ret
      exact ⟨-1, rfl, by omega, fun h => absurd h (by omega), HB0.out.trans (H1.out.mono HB0.out.size)⟩
    · go_wp2_with fail
      refine (szByteSS_any wa wn wc s.who r2 w2 (HR.out _ H1.out).who (by omega) (by omega)).mono ?_
      rintro e w3 ⟨r3, rfl, l3, f3, hw3⟩
      subst hw3
      have F3 : Hid (¬ r3 < 0 → wn ≤ 1048576 ∧ ∀ i, i < wn → (s.who.getD i []).length ≤ 1048576) := f3
      clear f3
      by_cases n3 : r3 < 0
      · go_wp2_with fail
        go_ret
        exact ⟨-1, rfl, by omega, fun h => absurd h (by omega), HB0.out.trans (H1.out.mono HB0.out.size)⟩
      · go_wp2_with fail
        refine (szG_any (HR.out _ H1.out).l (Nat.le_trans hs0 s1) r3 (by omega) (by omega)).mono ?_
        rintro e w4 ⟨r4, rfl, l4, f4, hb4⟩
        have F4 : Hid (¬ r4 < 0 → ln ≤ 1048576 ∧ ∀ i, i < ln → (s.l.getD i CL.zero).inds.length ≤ 1048576) := f4
        have H4 : Hid (Below w.heap.size w w4) := HB0.out.trans ((H1.out.trans (hb4.mono s1)).mono HB0.out.size)
        clear f4 hb4
        by_cases n4 : r4 < 0
        · go_wp2_with fail
          go_ret
          exact ⟨-1, rfl, by omega, fun h => absurd h (by omega), H4.out⟩
        · go_wp2_with fail
          go_ret
          exact ⟨_, rfl, by omega, fun _ => ⟨⟨by have := P1.out.1; omega, by have := P1.out.1; have := length_le_bulks s.atoms; have := HAn.out; omega⟩, F2.out n2, F3.out n3, F4.out n4⟩, H4.out⟩
end

section
open Go.RowKit

def put11 (F : Nat → Value) (p : Nat) (v0 v1 v2 v3 v4 v5 v6 v7 v8 v9 v10 : Value) (j : Nat) : Value := if j = p + 10 then v10 else if j = p + 9 then v9 else if j = p + 8 then v8 else if j = p + 7 then v7 else if j = p + 6 then v6 else if j = p + 5 then v5 else if j = p + 4 then v4 else if j = p + 3 then v3 else if j = p + 2 then v2 else if j = p + 1 then v1 else if j = p then v0 else F j
def set11o (W : World) (g p : Nat) (v0 v1 v2 v3 v4 v5 v6 v7 v8 v9 v10 : Value) : World := (((((((((((W.setCell ⟨g, p, none⟩ v0).setCell ⟨g, p + 1, none⟩ v1).setCell ⟨g, p + 2, none⟩ v2).setCell ⟨g, p + 3, none⟩ v3).setCell ⟨g, p + 4, none⟩ v4).setCell ⟨g, p + 5, none⟩ v5).setCell ⟨g, p + 6, none⟩ v6).setCell ⟨g, p + 7, none⟩ v7).setCell ⟨g, p + 8, none⟩ v8).setCell ⟨g, p + 9, none⟩ v9).setCell ⟨g, p + 10, none⟩ v10)
theorem row_put11 {W : World} {g t n p : Nat} {F : Nat → Value} (h : W.rowIs g t n F) (v0 v1 v2 v3 v4 v5 v6 v7 v8 v9 v10 : Value) : (set11o W g p v0 v1 v2 v3 v4 v5 v6 v7 v8 v9 v10).rowIs g t n (put11 F p v0 v1 v2 v3 v4 v5 v6 v7 v8 v9 v10) := (((((((((((h.set (p) v0).set (p + 1) v1).set (p + 2) v2).set (p + 3) v3).set (p + 4) v4).set (p + 5) v5).set (p + 6) v6).set (p + 7) v7).set (p + 8) v8).set (p + 9) v9).set (p + 10) v10)
theorem heap_set11o (W : World) {b g p : Nat} (v0 v1 v2 v3 v4 v5 v6 v7 v8 v9 v10 : Value) (hb : b ≠ g) : (set11o W g p v0 v1 v2 v3 v4 v5 v6 v7 v8 v9 v10).heap[b]? = W.heap[b]? := by
  unfold set11o
  rw [Below.heap_setCell _ ⟨g, p + 10, none⟩ _ b hb, Below.heap_setCell _ ⟨g, p + 9, none⟩ _ b hb, Below.heap_setCell _ ⟨g, p + 8, none⟩ _ b hb, Below.heap_setCell _ ⟨g, p + 7, none⟩ _ b hb, Below.heap_setCell _ ⟨g, p + 6, none⟩ _ b hb, Below.heap_setCell _ ⟨g, p + 5, none⟩ _ b hb, Below.heap_setCell _ ⟨g, p + 4, none⟩ _ b hb, Below.heap_setCell _ ⟨g, p + 3, none⟩ _ b hb, Below.heap_setCell _ ⟨g, p + 2, none⟩ _ b hb, Below.heap_setCell _ ⟨g, p + 1, none⟩ _ b hb, Below.heap_setCell _ ⟨g, p, none⟩ _ b hb]
theorem size_set11o (W : World) (g p : Nat) (v0 v1 v2 v3 v4 v5 v6 v7 v8 v9 v10 : Value) : (set11o W g p v0 v1 v2 v3 v4 v5 v6 v7 v8 v9 v10).heap.size = W.heap.size := by unfold set11o; simp
theorem below_set11o {B : Nat} {w W : World} (h : Below B w W) {g : Nat} (hg : B ≤ g) (p : Nat) (v0 v1 v2 v3 v4 v5 v6 v7 v8 v9 v10 : Value) : Below B w (set11o W g p v0 v1 v2 v3 v4 v5 v6 v7 v8 v9 v10) := by
  unfold set11o
  exact (((((((((((h.setCell (p := ⟨g, p, none⟩) hg _).setCell (p := ⟨g, p + 1, none⟩) hg _).setCell (p := ⟨g, p + 2, none⟩) hg _).setCell (p := ⟨g, p + 3, none⟩) hg _).setCell (p := ⟨g, p + 4, none⟩) hg _).setCell (p := ⟨g, p + 5, none⟩) hg _).setCell (p := ⟨g, p + 6, none⟩) hg _).setCell (p := ⟨g, p + 7, none⟩) hg _).setCell (p := ⟨g, p + 8, none⟩) hg _).setCell (p := ⟨g, p + 9, none⟩) hg _).setCell (p := ⟨g, p + 10, none⟩) hg _)
theorem put11_at (F : Nat → Value) (p : Nat) (v0 v1 v2 v3 v4 v5 v6 v7 v8 v9 v10 : Value) : put11 F p v0 v1 v2 v3 v4 v5 v6 v7 v8 v9 v10 (p) = v0 ∧ put11 F p v0 v1 v2 v3 v4 v5 v6 v7 v8 v9 v10 (p + 1) = v1 ∧ put11 F p v0 v1 v2 v3 v4 v5 v6 v7 v8 v9 v10 (p + 2) = v2 ∧ put11 F p v0 v1 v2 v3 v4 v5 v6 v7 v8 v9 v10 (p + 3) = v3 ∧ put11 F p v0 v1 v2 v3 v4 v5 v6 v7 v8 v9 v10 (p + 4) = v4 ∧ put11 F p v0 v1 v2 v3 v4 v5 v6 v7 v8 v9 v10 (p + 5) = v5 ∧ put11 F p v0 v1 v2 v3 v4 v5 v6 v7 v8 v9 v10 (p + 6) = v6 ∧ put11 F p v0 v1 v2 v3 v4 v5 v6 v7 v8 v9 v10 (p + 7) = v7 ∧ put11 F p v0 v1 v2 v3 v4 v5 v6 v7 v8 v9 v10 (p + 8) = v8 ∧ put11 F p v0 v1 v2 v3 v4 v5 v6 v7 v8 v9 v10 (p + 9) = v9 ∧ put11 F p v0 v1 v2 v3 v4 v5 v6 v7 v8 v9 v10 (p + 10) = v10 := by
  refine ⟨?_, ?_, ?_, ?_, ?_, ?_, ?_, ?_, ?_, ?_, ?_⟩ <;> simp [put11]
theorem put11_off (F : Nat → Value) {p j : Nat} (v0 v1 v2 v3 v4 v5 v6 v7 v8 v9 v10 : Value) (h : j < p) : put11 F p v0 v1 v2 v3 v4 v5 v6 v7 v8 v9 v10 j = F j := by
  unfold put11
  rw [if_neg (by omega), if_neg (by omega), if_neg (by omega), if_neg (by omega), if_neg (by omega), if_neg (by omega), if_neg (by omega), if_neg (by omega), if_neg (by omega), if_neg (by omega), if_neg (by omega)]

/-- Eleven values from here on read as this clause. -/
def ClF (F : Nat → Value) (o : Nat) (lo hi : Nat) (w : World) (x : CL) : Prop := ∃ (ia : Option Addr) (im ic : Nat), F (o) = .int .i64 x.kind ∧ F (o + 1) = .int .i64 x.fn ∧ F (o + 2) = .int .i64 x.role ∧ F (o + 3) = .int .i64 x.above ∧ F (o + 4) = .int .i64 x.xp ∧ F (o + 5) = .int .i64 x.xn ∧ F (o + 6) = .int .i64 x.yp ∧ F (o + 7) = .int .i64 x.yn ∧ F (o + 8) = .slice ia im ic ∧ F (o + 9) = .int .i64 x.a ∧ F (o + 10) = .int .i64 x.b ∧ RP lo hi w ia im ic x.inds

theorem ClF.carry {F G : Nat → Value} {o lo hi hi' : Nat} {w w' : World} {x : CL} (h : ClF F o lo hi w x) (hs : Same lo hi w w') (hh : hi ≤ hi') (e : ∀ j, o ≤ j → j < o + 11 → G j = F j) : ClF G o lo hi' w' x := by
  obtain ⟨ia, im, ic, q0, q1, q2, q3, q4, q5, q6, q7, q8, q9, q10, hr⟩ := h
  exact ⟨ia, im, ic, (e (o) (by omega) (by omega)).trans q0, (e (o + 1) (by omega) (by omega)).trans q1, (e (o + 2) (by omega) (by omega)).trans q2, (e (o + 3) (by omega) (by omega)).trans q3, (e (o + 4) (by omega) (by omega)).trans q4, (e (o + 5) (by omega) (by omega)).trans q5, (e (o + 6) (by omega) (by omega)).trans q6, (e (o + 7) (by omega) (by omega)).trans q7, (e (o + 8) (by omega) (by omega)).trans q8, (e (o + 9) (by omega) (by omega)).trans q9, (e (o + 10) (by omega) (by omega)).trans q10, (hr.same hs).mono (Nat.le_refl _) hh⟩

theorem Tryz.infoClause : (Tryz.prog.info? 53).map (fun i => (i.zero, i.size, i.bytes)) = some (some (.agg #[.int .i64 0, .int .i64 0, .int .i64 0, .int .i64 0, .int .i64 0, .int .i64 0, .int .i64 0, .int .i64 0, .slice none 0 0, .int .i64 0, .int .i64 0]), 11, 104) := by kernel_rfl
end

section
open Go.RowKit

theorem below_drewG (w : World) : Below w.heap.size w w.drew := (Below.refl _ _).drew

set_option maxRecDepth 100000 in
set_option maxHeartbeats 8000000 in
theorem eqG_any {a : Option Addr} {n cap : Nat} {xs : List CL} {w : World} {lo hi : Nat} {a' : Option Addr} {cap' lo' hi' : Nat} (h : RdG lo hi w a n cap xs) (h' : RdG lo' hi' w a' n cap' xs) (hhi : hi ≤ w.heap.size) (hhi' : hi' ≤ w.heap.size) :
    Calls Tryz.prog 29 #[.slice a n cap, .slice a' n cap'] w fun e w' => e = .returned (.bool true) ∧ Below w.heap.size w w' := by
  have HK : Hid (RdG lo hi w a n cap xs) := h
  have HK' : Hid (RdG lo' hi' w a' n cap' xs) := h'
  have hf := h.fits
  have hf' := h'.fits
  clear h h'
  go_enter Tryz.func29, Tryz.ntmps29
  go_wp2_with fail
  go_loopw [5] (fun i wr => ∃ k : Nat, k ≤ n ∧ i = .int .i64 k ∧ Below w.heap.size w wr) (fun i _ => n - (intOf i).toNat)
  case atStart => exact ⟨0, Nat.zero_le _, rfl, Below.refl _ _⟩
  case round =>
    obtain ⟨k, hk, rfl, hbel⟩ := hrel
    have HB : Hid (Below w.heap.size w wr) := hbel
    by_cases hlt : k < n
    · have hK := HK.out.below hbel hhi
      have hK' := HK'.out.below hbel hhi'
      rcases hK.cells with hz | ⟨b, off, e1, _, hbh, hc⟩
      · omega
      · rcases hK'.cells with hz | ⟨b', off', e1', _, hbh', hc'⟩
        · omega
        · subst e1 e1'
          obtain ⟨ia, im, ic, q0, q1, q2, q3, q4, q5, q6, q7, q8, q9, q10, hrd⟩ := hc k hlt
          obtain ⟨ia', im', ic', q0', q1', q2', q3', q4', q5', q6', q7', q8', q9', q10', hrd'⟩ := hc' k hlt
          obtain ⟨x, hx⟩ : ∃ x, x = xs.getD k CL.zero := ⟨_, rfl⟩
          rw [← hx] at q0 q1 q2 q3 q4 q5 q6 q7 q9 q10 hrd q0' q1' q2' q3' q4' q5' q6' q7' q9' q10' hrd'
          obtain ⟨xk, xf, xr, xu, xxp, xxn, xyp, xyn, xi, xa, xb⟩ := x
          dsimp only at q0 q1 q2 q3 q4 q5 q6 q7 q9 q10 hrd q0' q1' q2' q3' q4' q5' q6' q7' q9' q10' hrd'
          obtain rfl : im = im' := by have h1 := hrd.len; have h2 := hrd'.len; omega
          have HRd : Hid (RP lo hi wr.drew ia im ic xi) := hrd.same (fun _ _ _ => rfl)
          have HRd' : Hid (RP lo' hi' wr.drew ia' im ic' xi) := hrd'.same (fun _ _ _ => rfl)
          have hki : (k : Int) < (n : Int) := by omega
          have hh1 : hi ≤ wr.heap.size := Nat.le_trans hhi hbel.size
          have hh2 : hi' ≤ wr.heap.size := Nat.le_trans hhi' hbel.size
          clear hK hK' hc hc' hrd hrd' hbel hx
          go_upto_region 6 with fail
          first | go_region_with (first
            | (go_at_call 60; refine (eqK_any HRd.out HRd'.out hh1 hh2).mono ?_; rintro e w7 ⟨rfl, hb7⟩; have H7 : Hid (Below w.heap.size w w7) := HB.out.trans ((below_drewG wr).trans hb7 |>.mono HB.out.size); clear hb7)) | fail
          all_goals
            go_wp2_with fail
            go_roundw
            case rel => exact ⟨k + 1, by omega, by go_num, H7.out⟩
            case measure => simp [intOf]; omega
    · clear hbel
      go_wp2_with fail
      go_ret
      exact ⟨rfl, HB.out⟩

set_option maxRecDepth 100000 in
set_option maxHeartbeats 2000000 in
theorem eqS_any {d : Nat} {aa : Option Addr} {an ac : Nat} {ra : Option Addr} {rn rc : Nat} {wa : Option Addr} {wn wc : Nat} {la : Option Addr} {ln lc : Nat} {s : CS} {w : World} {lo hi : Nat} {d' : Nat} {aa' : Option Addr} {ac' : Nat} {ra' : Option Addr} {rc' : Nat} {wa' : Option Addr} {wc' : Nat} {la' : Option Addr} {lc' : Nat} {lo' hi' : Nat} (h : RdS lo hi w d aa an ac ra rn rc wa wn wc la ln lc s) (h' : RdS lo' hi' w d' aa' an ac' ra' rn rc' wa' wn wc' la' ln lc' s) (hhi : hi ≤ w.heap.size) (hhi' : hi' ≤ w.heap.size) :
    Calls Tryz.prog 9 #[.agg #[.slice aa an ac, .slice ra rn rc, .slice wa wn wc, .slice la ln lc], .agg #[.slice aa' an ac', .slice ra' rn rc', .slice wa' wn wc', .slice la' ln lc']] w fun e w' => e = .returned (.bool true) ∧ Below w.heap.size w w' := by
  obtain ⟨W0, hW0⟩ : ∃ W0, W0 = (w.alloc (.cells #[.slice aa an ac, .slice ra rn rc, .slice wa wn wc, .slice la ln lc] 33)).alloc (.cells #[.slice aa' an ac', .slice ra' rn rc', .slice wa' wn wc', .slice la' ln lc'] 33) := ⟨_, rfl⟩
  have HW0 : Hid (W0 = (w.alloc (.cells #[.slice aa an ac, .slice ra rn rc, .slice wa wn wc, .slice la ln lc] 33)).alloc (.cells #[.slice aa' an ac', .slice ra' rn rc', .slice wa' wn wc', .slice la' ln lc'] 33)) := hW0
  have hb0 : Below w.heap.size w W0 := by rw [hW0]; exact ((Below.refl _ _).alloc (Nat.le_refl _) _).alloc (by simp) _
  have HB0 : Hid (Below w.heap.size w W0) := hb0
  have hs0 := hb0.size
  have hbx : Blk W0 w.heap.size 33 (.slice aa an ac) (.slice ra rn rc) (.slice wa wn wc) (.slice la ln lc) := by rw [hW0]; exact (Blk.alloc_new w _ _ _ _ _ _ rfl).alloc _
  have hby : Blk W0 (w.heap.size + 1) 33 (.slice aa' an ac') (.slice ra' rn rc') (.slice wa' wn wc') (.slice la' ln lc') := by rw [hW0]; exact Blk.alloc_new _ _ _ _ _ _ _ (by simp)
  have HX : Hid (∀ V, Below W0.heap.size W0 V → Blk V w.heap.size 33 (.slice aa an ac) (.slice ra rn rc) (.slice wa wn wc) (.slice la ln lc)) := fun V hV => hbx.below hV hbx.lt
  have HY : Hid (∀ V, Below W0.heap.size W0 V → Blk V (w.heap.size + 1) 33 (.slice aa' an ac') (.slice ra' rn rc') (.slice wa' wn wc') (.slice la' ln lc')) := fun V hV => hby.below hV hby.lt
  have HR : Hid (∀ V, Below W0.heap.size W0 V → RdS lo hi V d aa an ac ra rn rc wa wn wc la ln lc s) := fun V hV => (h.below hb0 hhi).below hV (by omega)
  have HR' : Hid (∀ V, Below W0.heap.size W0 V → RdS lo' hi' V d' aa' an ac' ra' rn rc' wa' wn wc' la' ln lc' s) := fun V hV => (h'.below hb0 hhi').below hV (by omega)
  obtain ⟨z0, z1, z2, z3, _⟩ := hbx.cells
  obtain ⟨y0, y1, y2, y3, _⟩ := hby.cells
  clear h h' hb0 hW0 hbx hby
  go_enter Tryz.func9, Tryz.ntmps9
  go_upto_region 1 with fail
  rw [← HW0.out]
  go_wp2_with fail
  have H0 : Hid (Below W0.heap.size W0 W0) := Below.refl _ _
  refine (eqL_of (eqC_any d) aa aa' an ac ac' s.atoms d' W0 lo hi lo' hi' (HR.out _ H0.out).atoms (HR'.out _ H0.out).atoms (by omega) (by omega)).mono ?_
  rintro e w1 ⟨rfl, hb1⟩
  have H1 : Hid (Below W0.heap.size W0 w1) := hb1
  have s1 := hb1.size
  clear hb1 z0 z1 z2 z3 y0 y1 y2 y3
  obtain ⟨z0, z1, z2, z3, _⟩ := (HX.out _ H1.out).cells
  obtain ⟨y0, y1, y2, y3, _⟩ := (HY.out _ H1.out).cells
  go_wp2_with fail
  refine (eqByteSS_any ra ra' rn rc rc' s.roles w1 (HR.out _ H1.out).roles (HR'.out _ H1.out).roles (by omega) (by omega)).mono ?_
  rintro e w2 ⟨rfl, hb2⟩
  have H2 : Hid (Below W0.heap.size W0 w2) := H1.out.trans (hb2.mono (by omega))
  have s2 := hb2.size
  clear hb2 z0 z1 z2 z3 y0 y1 y2 y3
  obtain ⟨z0, z1, z2, z3, _⟩ := (HX.out _ H2.out).cells
  obtain ⟨y0, y1, y2, y3, _⟩ := (HY.out _ H2.out).cells
  go_wp2_with fail
  refine (eqByteSS_any wa wa' wn wc wc' s.who w2 (HR.out _ H2.out).who (HR'.out _ H2.out).who (by omega) (by omega)).mono ?_
  rintro e w3 ⟨rfl, hb3⟩
  have H3 : Hid (Below W0.heap.size W0 w3) := H2.out.trans (hb3.mono (by omega))
  have s3 := hb3.size
  clear hb3 z0 z1 z2 z3 y0 y1 y2 y3
  obtain ⟨z0, z1, z2, z3, _⟩ := (HX.out _ H3.out).cells
  obtain ⟨y0, y1, y2, y3, _⟩ := (HY.out _ H3.out).cells
  go_wp2_with fail
  refine (eqG_any (HR.out _ H3.out).l (HR'.out _ H3.out).l (by omega) (by omega)).mono ?_
  rintro e w4 ⟨rfl, hb4⟩
  have H4 : Hid (Below W0.heap.size W0 w4) := H3.out.trans (hb4.mono (by omega))
  clear hb4
  go_wp2_with fail
  go_ret
  exact ⟨rfl, HB0.out.trans (H4.out.mono hs0)⟩
end

end Go.Proofs.YtknainelonaigaaGreatDoor
