/- Several texts in one: ConOkImpl, ConTextFn, AxTxt. -/
import Derived.Test.YtckhjoancfbkfaaGreatNG10
import Derived.Test.YtckhjoancfbkfaaGreatNG9
import Derived.Test.YtckhjoancfbkfaaGreatNG8
import Derived.Test.YtckhjoancfbkfaaGreatNG2
import Derived.Test.YtckhjoancfbkfaaGreatNG6
namespace Go.Proofs.YtckhjoancfbkfaaGreat

section
open Go.RowKit Go.Shelf

attribute [local go_sem] Oper.semAt_some

theorem boxed_noncells {W W' : World} {B t : Nat} {v : Value} {row : Option Nat} (h : Boxed W B t v) (hg : W.grownBy W' row)
    (hr : ∀ r, row = some r → ∃ o : Obj, W.heap[r]? = some o ∧ o.isCells = false) : Boxed W' B t v :=
  h.kept hg (fun e => by
    obtain ⟨o, ho, hc⟩ := hr B e.symm
    rw [show W.heap[B]? = _ from h] at ho; cases ho; cases hc)
theorem boxC_noncells {W W' : World} {B : Nat} {v0 v1 v2 v3 : Value} {row : Option Nat} (h : BoxC W B v0 v1 v2 v3) (hg : W.grownBy W' row)
    (hr : ∀ r, row = some r → ∃ o : Obj, W.heap[r]? = some o ∧ o.isCells = false) : BoxC W' B v0 v1 v2 v3 :=
  (hg.block B h.lt (fun e => by
    obtain ⟨o, ho, hc⟩ := hr B e.symm
    rw [show W.heap[B]? = _ from h] at ho; cases ho; cases hc)).trans h
theorem boxed_setOther {W : World} {B t : Nat} {v : Value} (h : Boxed W B t v) {B' : Nat} (hne : B ≠ B') (x : Value) : Boxed (W.setCell ⟨B', 0, none⟩ x) B t v :=
  (Below.heap_setCell W ⟨B', 0, none⟩ x B hne).trans h
theorem boxed_below {W W' : World} {B t : Nat} {v : Value} (h : Boxed W B t v) {n : Nat} (hb : Below n W W') (hn : B < n) : Boxed W' B t v := (hb.block B hn).trans h
theorem keepsOthers_below {W W' : World} (h : Below W.heap.size W W') : KeepsOthers W W' := ⟨h.size, fun k _ hk _ => (h.block k (Array.getElem?_eq_some_iff.1 hk).1).trans hk⟩
/-- A store into a box that lies between keeps what is told. -/
theorem KpC.set {B n1 : Nat} (W : World) (b : Nat) (v : Value) (h1 : B ≤ b) (h2 : b < n1) : KpC B n1 W (W.setCell ⟨b, 0, none⟩ v) :=
  ⟨(Below.refl _ _).setCell (p := ⟨b, 0, none⟩) h1 _, fun x _ hx h _ => (Below.heap_setCell W ⟨b, 0, none⟩ v x (by show x ≠ b; omega)).trans h⟩

theorem all_okOne_snoc {lo hi : Nat} {w0 : World} (pre : List (Item lo hi w0)) (x : Item lo hi w0) : ((pre ++ [x]).map Item.m).all okOne = ((pre.map Item.m).all okOne && okOne x.m) := by simp

theorem conOk_of_all {lo hi : Nat} {w0 : World} {c : CN} {ys : List (Item lo hi w0)} (h : ys.map Item.m = parts c 1) (hf : ys.length ≤ 16) (hg : (ys.map Item.m).all okOne = true) : conOk c = true := by
  unfold conOk
  rw [← h, hg, List.length_map]
  simp [hf]

theorem conOk_of_part {lo hi : Nat} {w0 : World} {c : CN} {pre : List (Item lo hi w0)} (h : pre.map Item.m <+: parts c 1) (hb : 16 < pre.length ∨ (pre.map Item.m).all okOne = false) : conOk c = false := by
  obtain ⟨t, ht⟩ := h
  unfold conOk
  rw [← ht, List.length_append, List.length_map, List.all_append]
  rcases hb with hb | hb
  · rw [show decide (pre.length + t.length ≤ 16) = false from by simp; omega]; rfl
  · rw [hb]; simp

/-- Between two rounds. -/
structure InvO {lo hi : Nat} {w0 : World} (s n1 : Nat) (w : World) (pre : List (Item lo hi w0)) (W : World) : Prop where
  res : Boxed W (s + 1) 4 (.bool false)
  cnt : Boxed W (s + 1 + 1) 3 (.int .i64 (pre.length : Nat))
  bel : Below s w W
  few : pre.length ≤ 16
  good : (pre.map Item.m).all okOne = true
  size : n1 ≤ W.heap.size

structure InvOx {lo hi : Nat} {w0 : World} (s : Nat) (w : World) (c : Code) (pre : List (Item lo hi w0)) (W : World) : Prop where
  code : c = .ret
  res : Boxed W (s + 1) 4 (.bool false)
  bel : Below s w W
  bad : 16 < pre.length ∨ (pre.map Item.m).all okOne = false

theorem InvO.own {lo hi : Nat} {w0 : World} {s n1 : Nat} {w : World} {B : Nat} (hB : s ≤ B) : OwnFrom B (InvO (lo := lo) (hi := hi) (w0 := w0) s n1 w) := by
  rintro pre W W' row ⟨h1, h2, h3, h4, h5, h6⟩ hg hr
  have : s ≤ W.heap.size := by have := Boxed.lt h1; omega
  exact ⟨boxed_noncells h1 hg fun r e => (hr r e).2, boxed_noncells h2 hg fun r e => (hr r e).2, h3.grown hg this fun k e => by have := (hr k e).1; omega, h4, h5, Nat.le_trans h6 hg.size⟩

theorem InvOx.own {lo hi : Nat} {w0 : World} {s : Nat} {w : World} {B : Nat} (hB : s ≤ B) (c : Code) : OwnFrom B (InvOx (lo := lo) (hi := hi) (w0 := w0) s w c) := by
  rintro pre W W' row ⟨h0, h1, h3, h4⟩ hg hr
  have : s ≤ W.heap.size := by have := Boxed.lt h1; omega
  exact ⟨h0, boxed_noncells h1 hg fun r e => (hr r e).2, h3.grown hg this fun k e => by have := (hr k e).1; omega, h4⟩

/-- A round's variables: the part in a box of its own. -/
def AxO {lo hi : Nat} {w0 : World} (n1 : Nat) (f : Value → Value → Value → Array Value) (x : Item lo hi w0) (a' : Act) (W : World) : Prop :=
  ∃ (Bx : Nat) (k : Int) (na : Option Addr) (nn nc : Nat) (ra : Option Addr) (rn rc : Nat) (ka : Option Addr) (kn kc : Nat), n1 ≤ Bx ∧ x.v = .agg #[.int .i64 k, .slice na nn nc, .slice ra rn rc, .slice ka kn kc] ∧ BoxC W Bx (.int .i64 k) (.slice na nn nc) (.slice ra rn rc) (.slice ka kn kc) ∧
    a' = { tmps := f (.int .i64 x.deep) (.agg #[.int .i64 k, .slice na nn nc, .slice ra rn rc, .slice ka kn kc]) (.pointer (some ⟨Bx, 0, none⟩)), defers := [] }

theorem AxO.own {lo hi : Nat} {w0 : World} {n1 B : Nat} {f : Value → Value → Value → Array Value} (x : Item lo hi w0) (a' : Act) : OwnFrom B (fun (_ : Unit) W => AxO n1 f x a' W) := by
  rintro _ W W' row ⟨Bx, k, na, nn, nc, ra, rn, rc, ka, kn, kc, h1, h2, h3, h4⟩ hg hr
  exact ⟨Bx, k, na, nn, nc, ra, rn, rc, ka, kn, kc, h1, h2, boxC_noncells h3 hg fun r e => (hr r e).2, h4⟩

set_option maxRecDepth 100000 in
set_option maxHeartbeats 2000000 in
theorem implConOk_any {d : Nat} {v : Value} {c : CN} {w : World} {lo hi : Nat} (h : RdC lo hi w d v c) (hhi : hi ≤ w.heap.size) (hbk : c.bulk ≤ 1048576) :
    Calls Tryz.prog 87 #[v] w fun e w' => e = .returned (.bool (conOk c)) ∧ Below w.heap.size w w' := by
  have HRd : Hid (RdC lo hi w d v c) := h
  obtain ⟨k, na, nn, nc, ra, rn, rc, ka, kn, kc, rfl⟩ : ∃ k na nn nc ra rn rc ka kn kc, v = .agg #[.int .i64 k, .slice na nn nc, .slice ra rn rc, .slice ka kn kc] := by
    cases d with
    | zero => exact h.elim
    | succ d =>
      obtain ⟨na, nn, nc, ra, rn, rc, ka, kn, kc, hv, _⟩ := h
      exact ⟨_, na, nn, nc, ra, rn, rc, ka, kn, kc, hv⟩
  clear h
  refine (callsIn_wide (n := 6)).1 ?_
  refine callsIn_of_wp_marks Tryz.func87 rfl trivial ?_ rfl
  simp only [Tryz.ntmps87, List.size_toArray, List.length_cons, List.length_nil, Nat.reduceAdd, Nat.reduceSub, Array.replicate_succ, Array.replicate_zero, List.push_toArray, List.append_toArray, List.nil_append, List.cons_append]
  gi_wp2_with (first | (refine ⟨trivial, ?_⟩; gi_at_call 121; refine (conTree_in _ _ _ _ _ _ _ _ _ _ _ _).mono ?_; rintro e w' ⟨rfl, rfl⟩) | (refine ⟨trivial, ?_⟩; gi_at_call 122; refine (all_in _ _ _ _ _ _ _ _ _ _ _ _).mono ?_; rintro e w' ⟨rfl, rfl⟩))
  obtain ⟨W0, hW0⟩ : ∃ W0, W0 = ((((((w.alloc (.cells #[.int .i64 k, .slice na nn nc, .slice ra rn rc, .slice ka kn kc] 37)).alloc (.cells #[.bool false] 4)).alloc (.cells #[.int .i64 0] 3)).alloc (.cells #[.int .i64 k, .slice na nn nc, .slice ra rn rc, .slice ka kn kc] 37)).alloc (.cells #[.int .i64 k, .slice na nn nc, .slice ra rn rc, .slice ka kn kc, .func (.func 148) #[] #[]] 151)).alloc (.cells #[.int .i64 k, .slice na nn nc, .slice ra rn rc, .slice ka kn kc, .func (.func 148) #[] #[]] 151)) := ⟨_, rfl⟩
  have hsz : W0.heap.size = w.heap.size + 1 + 1 + 1 + 1 + 1 + 1 := by rw [hW0]; simp
  have hb0 : Below w.heap.size w W0 := by rw [hW0]; exact ((((((Below.refl _ w).alloc (Nat.le_refl _) _).alloc (by simp) _).alloc (by simp; omega) _).alloc (by simp; omega) _).alloc (by simp; omega) _).alloc (by simp; omega) _
  have hI0 : Boxed W0 (w.heap.size + 1) 4 (.bool false) := by
    rw [hW0]; have := Boxed.new (w.alloc (.cells #[.int .i64 k, .slice na nn nc, .slice ra rn rc, .slice ka kn kc] 37)) 4 (.bool false)
    rw [World.size_alloc] at this; exact ((((this.alloc _).alloc _).alloc _).alloc _)
  have hI1 : Boxed W0 (w.heap.size + 1 + 1) 3 (.int .i64 0) := by
    rw [hW0]; have := Boxed.new ((w.alloc (.cells #[.int .i64 k, .slice na nn nc, .slice ra rn rc, .slice ka kn kc] 37)).alloc (.cells #[.bool false] 4)) 3 (.int .i64 0)
    rw [World.size_alloc, World.size_alloc] at this; exact (((this.alloc _).alloc _).alloc _)
  have hBT : BoxT W0 (w.heap.size + 1 + 1 + 1 + 1 + 1) k na nn nc ra rn rc ka kn kc := by
    rw [hW0]; have := World.alloc_heap_new (((((w.alloc (.cells #[.int .i64 k, .slice na nn nc, .slice ra rn rc, .slice ka kn kc] 37)).alloc (.cells #[.bool false] 4)).alloc (.cells #[.int .i64 0] 3)).alloc (.cells #[.int .i64 k, .slice na nn nc, .slice ra rn rc, .slice ka kn kc] 37)).alloc (.cells #[.int .i64 k, .slice na nn nc, .slice ra rn rc, .slice ka kn kc, .func (.func 148) #[] #[]] 151)) (.cells #[.int .i64 k, .slice na nn nc, .slice ra rn rc, .slice ka kn kc, .func (.func 148) #[] #[]] 151)
    simp only [World.size_alloc] at this; exact this
  rw [← hW0]
  clear hW0
  refine wpIn_rangeFunc_ownH rfl (by omega) (gf := 149) (lb := #[.pointer (some ⟨w.heap.size + 1 + 1 + 1 + 1 + 1, 0, none⟩)]) rfl trivial (enters_of Tryz.func149 (by kernel_rfl) rfl)
    (parts_stops (lo := lo) (hi := hi) (B := w.heap.size) (n1 := w.heap.size + 1 + 1 + 1 + 1 + 1 + 1) 5 (w.heap.size + 1 + 1 + 1 + 1 + 1) hhi (by omega) c HRd.out (by omega) hb0 (by omega) hBT) KpC.trans
    (fun W l o o' hl hW hc _ => KpC.putObj W l o o' (by omega) hW hc) (Below.refl _ _) (fun _ => rfl)
    (InvO w.heap.size (w.heap.size + 1 + 1 + 1 + 1 + 1 + 1) w) (InvOx w.heap.size w) (InvO.own (by omega)) (InvOx.own (by omega))
    ⟨hI0, hI1, hb0, by simp, rfl, by omega⟩
    (AxO (w.heap.size + 1 + 1 + 1 + 1 + 1 + 1) (fun dv pv bx => #[.agg #[.int .i64 k, .slice na nn nc, .slice ra rn rc, .slice ka kn kc], .pointer (some ⟨w.heap.size, 0, none⟩), .pointer (some ⟨w.heap.size + 1, 0, none⟩), .pointer (some ⟨w.heap.size + 1 + 1, 0, none⟩), dv, bx, .agg #[.int .i64 k, .slice na nn nc, .slice ra rn rc, .slice ka kn kc], .agg #[.int .i64 k, .slice na nn nc, .slice ra rn rc, .slice ka kn kc, .func (.func 148) #[] #[]], .func (.func 149) #[] #[.pointer (some ⟨w.heap.size + 1 + 1 + 1 + 1 + 1, 0, none⟩)], dv, pv, undef, undef, undef, undef, undef, undef, undef, undef, undef, undef, undef, undef, undef])) AxO.own ?assign ?body ?done ?stop
  case assign =>
    rintro l pre ⟨deep, v, cx, dx, rd⟩ W K hi hK
    obtain ⟨xk, xna, xnn, xnc, xra, xrn, xrc, xka, xkn, xkc, rfl⟩ : ∃ k na nn nc ra rn rc ka kn kc, v = .agg #[.int .i64 k, .slice na nn nc, .slice ra rn rc, .slice ka kn kc] := by
      cases dx with
      | zero => exact rd.elim
      | succ d =>
        obtain ⟨na, nn, nc, ra, rn, rc, ka, kn, kc, hv, _⟩ := rd
        exact ⟨_, na, nn, nc, ra, rn, rc, ka, kn, kc, hv⟩
    unfold encI
    gi_wp2
    have hlt := Boxed.lt hi.cnt
    have hB : Below W.heap.size W (W.alloc (.cells #[.int .i64 xk, .slice xna xnn xnc, .slice xra xrn xrc, .slice xka xkn xkc] 37)) := (Below.refl _ _).alloc (Nat.le_refl _) _
    exact hK _ _ ((keepsOthers_below hB).from _) (KpC.of_below hB (by omega)) ⟨hi.res.alloc _, hi.cnt.alloc _, hi.bel.alloc (by omega) _, hi.few, hi.good, Nat.le_trans hi.size hB.size⟩
      ⟨W.heap.size, xk, xna, xnn, xnc, xra, xrn, xrc, xka, xkn, xkc, hi.size, rfl, BoxC.new W _ _ _ _, rfl⟩
  case body =>
    rintro l pre ⟨deep, v, cx, dx, rd⟩ a' W hl ⟨r, hr⟩ hI ⟨Bx, xk, xna, xnn, xnc, xra, xrn, xrc, xka, xkn, xkc, hBx, hv, hbox, rfl⟩ hlen
    dsimp only at hv
    subst hv
    have HI : Hid (InvO w.heap.size (w.heap.size + 1 + 1 + 1 + 1 + 1 + 1) w pre W) := hI
    have cC := Boxed.cell hI.cnt
    have fC := Boxed.frozen hI.cnt
    have cR := Boxed.cell hI.res
    have fR := Boxed.frozen hI.res
    have hfew := hI.few
    have hsW := hI.size
    have HBox : Hid (BoxC W Bx (.int .i64 xk) (.slice xna xnn xnc) (.slice xra xrn xrc) (.slice xka xkn xkc)) := hbox
    obtain ⟨q0, q1, q2, q3⟩ := hbox.cells
    have HRx : Hid (RdC lo hi w dx (.agg #[.int .i64 xk, .slice xna xnn xnc, .slice xra xrn xrc, .slice xka xkn xkc]) cx) := rd
    have HOne : Hid (((pre ++ [(⟨deep, .agg #[.int .i64 xk, .slice xna xnn xnc, .slice xra xrn xrc, .slice xka xkn xkc], cx, dx, rd⟩ : Item lo hi w)]).map Item.m).all okOne = (decide (deep ≤ 6) && shapeB cx)) := by unfold Hid; rw [all_okOne_snoc, HI.out.good]; rfl
    have hne1 : Bx ≠ w.heap.size + 1 + 1 := by omega
    have hne2 : w.heap.size + 1 + 1 ≠ Bx := by omega
    have hx1 : w.heap.size + 1 < W.heap.size := by omega
    have hx2 : w.heap.size + 1 + 1 < W.heap.size := by omega
    have hpl : (pre ++ [(⟨deep, .agg #[.int .i64 xk, .slice xna xnn xnc, .slice xra xrn xrc, .slice xka xkn xkc], cx, dx, rd⟩ : Item lo hi w)]).length = pre.length + 1 := by simp
    have HPl : Hid ((pre ++ [(⟨deep, .agg #[.int .i64 xk, .slice xna xnn xnc, .slice xra xrn xrc, .slice xka xkn xkc], cx, dx, rd⟩ : Item lo hi w)]).length = pre.length + 1) := hpl
    have HKW : Hid (KpC w.heap.size (w.heap.size + 1 + 1 + 1 + 1 + 1 + 1) W (W.setCell ⟨w.heap.size + 1 + 1, 0, none⟩ (.int .i64 ((pre.length : Int) + 1)))) := KpC.set W _ _ (by omega) (by omega)
    have HBl : Hid (Below w.heap.size w (W.setCell ⟨w.heap.size + 1 + 1, 0, none⟩ (.int .i64 ((pre.length : Int) + 1)))) := HI.out.bel.trans HKW.out.1
    have HR1 : Hid (RdC lo hi (W.setCell ⟨w.heap.size + 1 + 1, 0, none⟩ (.int .i64 ((pre.length : Int) + 1))) dx (.agg #[.int .i64 xk, .slice xna xnn xnc, .slice xra xrn xrc, .slice xka xkn xkc]) cx) := HRx.out.below HBl.out hhi
    have HRes1 : Hid (Boxed (W.setCell ⟨w.heap.size + 1 + 1, 0, none⟩ (.int .i64 ((pre.length : Int) + 1))) (w.heap.size + 1) 4 (.bool false)) := boxed_setOther HI.out.res (by omega) _
    have HCnt1 : Hid (Boxed (W.setCell ⟨w.heap.size + 1 + 1, 0, none⟩ (.int .i64 ((pre.length : Int) + 1))) (w.heap.size + 1 + 1) 3 (.int .i64 ((pre.length : Int) + 1))) := Boxed.set _ HI.out.cnt
    clear hI hbox hr hlen hpl
    by_cases h16 : pre.length = 16
    · rw [h16] at HRes1 HBl
      gi_wp2
      refine ⟨trivial, ?_⟩
      gi_wp2
      exact ⟨((KeepsOthers.setCell _ _ _).trans (KeepsOthers.setCell _ _ _)).from _, rfl, Boxed.set _ HRes1.out, HBl.out.setCell (p := ⟨w.heap.size + 1, 0, none⟩) (by show w.heap.size ≤ w.heap.size + 1; omega) _, .inl (by rw [HPl.out]; omega)⟩
    · have d1 : decide ((16 : Int) < (pre.length : Nat) + 1) = false := by simp; omega
      by_cases h6 : 6 < deep
      · have d2 : (6 : Int) < (deep : Int) := by omega
        have HO : Hid ((decide (deep ≤ 6) && shapeB cx) = false) := by unfold Hid; rw [show decide (deep ≤ 6) = false from by simp; omega]; rfl
        gi_wp2
        refine ⟨trivial, ?_⟩
        gi_wp2
        exact ⟨((KeepsOthers.setCell _ _ _).trans (KeepsOthers.setCell _ _ _)).from _, rfl, Boxed.set _ HRes1.out, HBl.out.setCell (p := ⟨w.heap.size + 1, 0, none⟩) (by show w.heap.size ≤ w.heap.size + 1; omega) _, .inr (HOne.out.trans HO.out)⟩
      · have d2 : decide ((6 : Int) < (deep : Int)) = false := by simp; omega
        have d3 : decide (deep ≤ 6) = true := by simp; omega
        have hs1 : hi ≤ (W.setCell ⟨w.heap.size + 1 + 1, 0, none⟩ (.int .i64 ((pre.length : Int) + 1))).heap.size := by simp; omega
        have HS1 : Hid (hi ≤ (W.setCell ⟨w.heap.size + 1 + 1, 0, none⟩ (.int .i64 ((pre.length : Int) + 1))).heap.size) := hs1
        clear hs1
        cases hS : shapeB cx
        · have HO : Hid ((decide (deep ≤ 6) && shapeB cx) = false) := by unfold Hid; rw [hS, d3]; rfl
          gi_wp2
          refine ⟨trivial, ?_⟩
          refine (CallsIn.inRound l (callsIn_wide.2 (shapeOk_any HR1.out HS1.out))).mono ?_
          rintro e w1 ⟨rfl, hb1⟩
          rw [hS]
          have hres2 := boxed_below HRes1.out hb1 (Boxed.lt HRes1.out)
          have c2 := Boxed.cell hres2
          have f2 := Boxed.frozen hres2
          have HK1 : Hid (KeepsOthers (W.setCell ⟨w.heap.size + 1 + 1, 0, none⟩ (.int .i64 ((pre.length : Int) + 1))) w1) := keepsOthers_below hb1
          have HBl1 : Hid (Below w.heap.size w w1) := HBl.out.trans (hb1.mono HBl.out.size)
          have HRes2 : Hid (Boxed w1 (w.heap.size + 1) 4 (.bool false)) := hres2
          clear hb1 hres2
          gi_wp2
          exact ⟨(((KeepsOthers.setCell _ _ _).trans HK1.out).trans (KeepsOthers.setCell _ _ _)).from _, rfl, Boxed.set _ HRes2.out, HBl1.out.setCell (p := ⟨w.heap.size + 1, 0, none⟩) (by show w.heap.size ≤ w.heap.size + 1; omega) _, .inr (HOne.out.trans HO.out)⟩
        · have HO : Hid ((decide (deep ≤ 6) && shapeB cx) = true) := by unfold Hid; rw [hS, d3]; rfl
          gi_wp2
          refine ⟨trivial, ?_⟩
          refine (CallsIn.inRound l (callsIn_wide.2 (shapeOk_any HR1.out HS1.out))).mono ?_
          rintro e w1 ⟨rfl, hb1⟩
          rw [hS]
          have HK1 : Hid (KeepsOthers (W.setCell ⟨w.heap.size + 1 + 1, 0, none⟩ (.int .i64 ((pre.length : Int) + 1))) w1) := keepsOthers_below hb1
          have HBl1 : Hid (Below w.heap.size w w1) := HBl.out.trans (hb1.mono HBl.out.size)
          have HKp1 : Hid (KpC w.heap.size (w.heap.size + 1 + 1 + 1 + 1 + 1 + 1) W w1) := HKW.out.trans (KpC.of_below hb1 HBl.out.size)
          have HRes2 : Hid (Boxed w1 (w.heap.size + 1) 4 (.bool false)) := boxed_below HRes1.out hb1 (Boxed.lt HRes1.out)
          have HCnt2 : Hid (Boxed w1 (w.heap.size + 1 + 1) 3 (.int .i64 ((pre.length : Int) + 1))) := boxed_below HCnt1.out hb1 (Boxed.lt HCnt1.out)
          have hsz1 : W.heap.size ≤ w1.heap.size := HKp1.out.1.size
          clear hb1
          gi_wp2
          exact ⟨((KeepsOthers.setCell _ _ _).trans HK1.out).from _, HKp1.out, HRes2.out, by rw [HPl.out]; exact HCnt2.out, HBl1.out, by rw [HPl.out]; omega, HOne.out.trans HO.out, by omega⟩
  case done =>
    rintro D ys W hD hS hI hK
    have cR := Boxed.cell hI.res
    have fR := Boxed.frozen hI.res
    have hE : conOk c = true := conOk_of_all hS hI.few hI.good
    gi_wp2
    have hK' : (W.setCell ⟨w.heap.size + 1, 0, none⟩ (.bool true)).heap[D]? = some (.deferred (some [])) := (KeepsOthers.setCell _ _ _).same D _ hK rfl
    refine ⟨by simp, .inl ⟨_, _, rfl, run_takeDeferred hK', ?_⟩⟩
    have hB := boxed_noncells (Boxed.set (.bool true) hI.res) (grownBy_putObj' _ D (.deferred none)) (fun r e => by cases e; exact ⟨_, hK', rfl⟩)
    have cB := Boxed.cell hB
    exact ⟨.bool true, by simp [results, Tryz.results87, go_sem, cB], rb hE.symm, (hI.bel.setCell (p := ⟨w.heap.size + 1, 0, none⟩) (by show w.heap.size ≤ w.heap.size + 1; omega) _).grown (grownBy_putObj' _ D _) (by have := Boxed.lt hI.res; simp; omega) (fun k e => by cases e; omega)⟩
  case stop =>
    rintro D cd pre W hD hpre hI hK
    obtain ⟨rfl, hres, hbel, hbad⟩ := hI
    have cR := Boxed.cell hres
    have hE : conOk c = false := conOk_of_part hpre hbad
    gi_wp2
    refine ⟨by simp, .inl ⟨_, _, rfl, run_takeDeferred hK, ?_⟩⟩
    have hB := boxed_noncells hres (grownBy_putObj' _ D (.deferred none)) (fun r e => by cases e; exact ⟨_, hK, rfl⟩)
    have cB := Boxed.cell hB
    exact ⟨.bool false, by simp [results, Tryz.results87, go_sem, cB], rb hE.symm, hbel.grown (grownBy_putObj' _ D _) (by have := Boxed.lt hres; omega) (fun k e => by cases e; omega)⟩
end

section
open Go.RowKit

theorem Rd.mem {lo hi : Nat} {w : World} {a : Option Addr} {n cap : Nat} {zs : List Int} (h : Rd lo hi w a n cap zs) : ∀ x ∈ zs, 0 ≤ x ∧ x ≤ 255 := by
  intro x hx
  obtain ⟨j, hj, rfl⟩ := List.mem_iff_getElem.1 hx
  have := h.byte j
  rwa [List.getD, List.getElem?_eq_getElem hj] at this
end

section
open Go.RowKit

def axWordB (k : Int) : ByteArray := if k = 0 then ⟨#[83, 117, 98]⟩ else if k = 1 then ⟨#[69, 113]⟩ else if k = 2 then ⟨#[68, 105, 115]⟩ else if k = 3 then ⟨#[82, 111, 108, 101]⟩ else if k = 4 then ⟨#[73, 115]⟩ else if k = 5 then ⟨#[82, 101, 108]⟩ else ⟨#[]⟩

def fieldsN (k : Int) : List Nat := if k = 0 ∨ k = 1 ∨ k = 2 then [67, 68] else if k = 3 then [82, 83] else if k = 4 then [65, 67] else if k = 5 then [82, 65, 66] else []

/-! ### The words -/

set_option maxHeartbeats 400000 in
theorem axiomWord_any (k : Int) (w : World) : Calls Tryz.prog 70 #[.int .i64 k] w fun e w' => e = .returned (.string (axWordB k)) ∧ w' = w := by
  go_enter Tryz.func70, Tryz.ntmps70
  go_wp2
  all_goals
    go_ret
    refine ⟨?_, rfl⟩
    simp_all [axWordB]

set_option maxHeartbeats 400000 in
theorem l3word_any (k : Nat) (hk : k ≤ 5) (w : World) : Calls Tryz.prog 110 #[.int .i64 k] w fun e w' => e = .returned (.string (axWordB k)) ∧ Below w.heap.size w w' := by
  have hc : k = 0 ∨ k = 1 ∨ k = 2 ∨ k = 3 ∨ k = 4 ∨ k = 5 := by omega
  rcases hc with rfl | rfl | rfl | rfl | rfl | rfl
  all_goals
    go_enter Tryz.func110, Tryz.ntmps110
    go_wp2
    go_ret
    exact ⟨rfl, (Below.refl _ _).alloc (Nat.le_refl _) _⟩
end

end Go.Proofs.YtckhjoancfbkfaaGreat
