/- Which clauses hold whatever there is, as the program looks: literal by literal, counting: a contract. -/
import Derived.Test.YtcaljggnihinaaaDoorTautI2
import Derived.Test.YtcaljggnihinaaaDoorTautR9
namespace Go.Proofs.YtcaljggnihinaaaDoor
open Go.RowKit

attribute [local go_sem] Oper.semAt_some
attribute [local go_sem ↓] about_wide

theorem literals_inT (n : Nat) {k f r u xp xn yp yn : Int} {ia : Option Addr} {im ic : Nat} {a b : Int} (w : World) :
    CallsIn Fence.wide n Tryd.prog 22 #[.agg #[.int .i64 k, .int .i64 f, .int .i64 r, .int .i64 u, .int .i64 xp, .int .i64 xn, .int .i64 yp, .int .i64 yn, .slice ia im ic, .int .i64 a, .int .i64 b]] w fun e w' => e = .returned (.func (.func 37) #[] #[.pointer (some ⟨w.heap.size, 0, none⟩)]) ∧ w' = w.alloc (.cells #[.int .i64 k, .int .i64 f, .int .i64 r, .int .i64 u, .int .i64 xp, .int .i64 xn, .int .i64 yp, .int .i64 yn, .slice ia im ic, .int .i64 a, .int .i64 b] 32) := by
  refine callsIn_of_wp Tryd.func22 rfl trivial ?_ rfl
  simp only [Tryd.ntmps22, List.size_toArray, List.length_cons, List.length_nil, Nat.reduceAdd, Nat.reduceSub, Array.replicate_succ, Array.replicate_zero, List.push_toArray, List.append_toArray, List.nil_append, List.cons_append]
  gi_wp2
  go_ret
  exact ⟨rfl, rfl⟩

/-- A block of cells stays as it is where other blocks turn. -/
theorem cells_noncellsT {W W' : World} {B : Nat} {c : Array Value} {t : TypeId} {fz : Nat × Nat} {row : Option Nat} (h : W.heap[B]? = some (.cells c t fz)) (hg : W.grownBy W' row)
    (hr : ∀ r, row = some r → ∃ o : Obj, W.heap[r]? = some o ∧ o.isCells = false) : W'.heap[B]? = some (.cells c t fz) :=
  (hg.block B (Array.getElem?_eq_some_iff.1 h).1 (fun e => by
    obtain ⟨o, ho, hc⟩ := hr B e.symm
    rw [h] at ho; cases ho; cases hc)).trans h

open Classical in
/-- How often a key was met. -/
noncomputable def cntX (k f r u a b : Int) (pre : List LT) (v : Value) : Int := if ∃ x ∈ pre, keyX k f r u a b x = v then 1 else 0

theorem cntX_nil (k f r u a b : Int) : cntX k f r u a b [] = fun _ => 0 := by funext v; simp [cntX]
theorem cntX_new {k f r u a b : Int} {pre : List LT} {x : LT} (h : ¬ ∃ y ∈ pre, keyX k f r u a b y = keyX k f r u a b x) : cntX k f r u a b pre (keyX k f r u a b x) = 0 := by unfold cntX; rw [if_neg h]
theorem cntX_old {k f r u a b : Int} {pre : List LT} {x : LT} (h : ∃ y ∈ pre, keyX k f r u a b y = keyX k f r u a b x) : cntX k f r u a b pre (keyX k f r u a b x) = 1 := by unfold cntX; rw [if_pos h]
theorem cntX_snoc {k f r u a b : Int} {pre : List LT} {x : LT} (v : Value) (hv : v ≠ keyX k f r u a b x) : cntX k f r u a b (pre ++ [x]) v = cntX k f r u a b pre v := by
  unfold cntX
  have e : (∃ y ∈ pre ++ [x], keyX k f r u a b y = v) ↔ ∃ y ∈ pre, keyX k f r u a b y = v := by
    constructor
    · rintro ⟨y, hy, e⟩
      rw [List.mem_append, List.mem_singleton] at hy
      rcases hy with hy | rfl
      · exact ⟨y, hy, e⟩
      · exact absurd e.symm hv
    · rintro ⟨y, hy, e⟩
      exact ⟨y, by simp [hy], e⟩
  by_cases h : ∃ y ∈ pre, keyX k f r u a b y = v
  · rw [if_pos h, if_pos (e.2 h)]
  · rw [if_neg h, if_neg (fun q => h (e.1 q))]
theorem cntX_last {k f r u a b : Int} {pre : List LT} {x : LT} : cntX k f r u a b (pre ++ [x]) (keyX k f r u a b x) = 1 := by unfold cntX; rw [if_pos ⟨x, by simp, rfl⟩]

/-- A round's variable: the literal in a box of its own. -/
def AxT (n1 t : Nat) (f : Value → Value → Array Value) (x : LT) (a' : Act) (W : World) : Prop :=
  ∃ Bx : Nat, n1 ≤ Bx ∧ W.heap[Bx]? = some (.cells #[.int .i64 (x.place : Nat), .int .i64 (x.atom : Nat), .bool x.no] t (0, 0)) ∧ a' = { tmps := f (.agg #[.int .i64 (x.place : Nat), .int .i64 (x.atom : Nat), .bool x.no]) (.pointer (some ⟨Bx, 0, none⟩)), defers := [] }

theorem AxT.own {n1 t B : Nat} {f : Value → Value → Array Value} (x : LT) (a' : Act) : OwnFrom B (fun (_ : Unit) W => AxT n1 t f x a' W) := by
  rintro _ W W' row ⟨Bx, h1, h2, h3⟩ hg hr
  exact ⟨Bx, h1, cells_noncellsT h2 hg fun r e => (hr r e).2, h3⟩

theorem taut_eq {k f r u xp xn yp yn a b : Int} {xs : List (Int × Int)} (hok : clauseB k f r u xp xn yp yn xs a b = true) (h4 : (k == 4) = false) : isTaut k f r u xp xn yp yn a b xs = (six xp xn yp yn xs).any (fun p => bothB p.1 p.2) := by
  have h4' : k ≠ 4 := by simpa using h4
  unfold isTaut tautB
  rw [hok, six_any (clauseB_inds hok), decide_eq_false h4']
  simp

theorem taut_yes {k f r u xp xn yp yn a b : Int} {xs : List (Int × Int)} (hok : clauseB k f r u xp xn yp yn xs a b = true) (h4 : (k == 4) = false) {pr : List LT} {x y : LT} (h : pr ++ [x] <+: litsL 0 (natP (six xp xn yp yn xs))) (hy : y ∈ pr) (ht : y.twin x) : isTaut k f r u xp xn yp yn a b xs = true := by
  rw [taut_eq hok h4, any_both (clauseB_parts hok)]
  exact both_of_twin h hy ht

theorem taut_no {k f r u xp xn yp yn a b : Int} {xs : List (Int × Int)} (hok : clauseB k f r u xp xn yp yn xs a b = true) (h4 : (k == 4) = false) (h : (litsL 0 (natP (six xp xn yp yn xs))).Pairwise (fun x y => ¬ x.twin y)) : isTaut k f r u xp xn yp yn a b xs = false := by
  rw [taut_eq hok h4]
  cases e : (six xp xn yp yn xs).any (fun p => bothB p.1 p.2) with
  | false => rfl
  | true =>
    obtain ⟨j, hj, q, hq, h1, h2⟩ := (any_both (clauseB_parts hok)).1 e
    exact absurd ⟨h1, h2⟩ (no_both h j hj q hq)

theorem arr18 {cs : Array Value} (h : cs.size = 18) : ∃ e0 e1 e2 e3 e4 e5 e6 e7 e8 e9 e10 e11 e12 e13 e14 e15 e16 e17, cs = #[e0, e1, e2, e3, e4, e5, e6, e7, e8, e9, e10, e11, e12, e13, e14, e15, e16, e17] := by
  obtain ⟨l⟩ := cs
  match l, h with
  | [e0, e1, e2, e3, e4, e5, e6, e7, e8, e9, e10, e11, e12, e13, e14, e15, e16, e17], _ => exact ⟨e0, e1, e2, e3, e4, e5, e6, e7, e8, e9, e10, e11, e12, e13, e14, e15, e16, e17, rfl⟩

/-- Between two rounds. -/
structure InvT (s n1 mb mq : Nat) (k f r u a b : Int) (KC : Array Value) (w : World) (pre : List LT) (W : World) : Prop where
  kb : W.heap[s]? = some (.cells KC 32 (0, 0))
  res : Boxed W (s + 1) 4 (.bool false)
  met : Boxed W mb 44 (.map (some mq))
  map : MapT Tryd.prog 51 W mq (cntX k f r u a b pre)
  bel : Below s w W
  good : pre.Pairwise (fun x y => ¬ x.twin y)
  size : n1 ≤ W.heap.size

structure InvTx (s : Nat) (k f r u a b : Int) (w : World) (c : Code) (pre : List LT) (W : World) : Prop where
  code : c = .ret
  res : Boxed W (s + 1) 4 (.bool true)
  bel : Below s w W
  bad : ∃ pr x y, pre = pr ++ [x] ∧ y ∈ pr ∧ y.twin x

theorem InvT.own {s n1 mb mq : Nat} {k f r u a b : Int} {KC : Array Value} {w : World} {B : Nat} (hB : s ≤ B) (hm : mq < B) : OwnFrom B (InvT s n1 mb mq k f r u a b KC w) := by
  rintro pre W W' row ⟨h1, h2, h3, h4, h5, h6, h7⟩ hg hr
  have : s ≤ W.heap.size := by have := Boxed.lt h2; omega
  exact ⟨cells_noncellsT h1 hg fun r e => (hr r e).2, boxed_noncells h2 hg fun r e => (hr r e).2, boxed_noncells h3 hg fun r e => (hr r e).2, h4.block (hg.block mq h4.lt (fun e => by have := (hr mq e.symm).1; omega)), h5.grown hg this fun k e => by have := (hr k e).1; omega, h6, Nat.le_trans h7 hg.size⟩

theorem InvTx.own {s : Nat} {k f r u a b : Int} {w : World} {B : Nat} (hB : s ≤ B) (c : Code) : OwnFrom B (InvTx s k f r u a b w c) := by
  rintro pre W W' row ⟨h0, h1, h3, h4⟩ hg hr
  have : s ≤ W.heap.size := by have := Boxed.lt h1; omega
  exact ⟨h0, boxed_noncells h1 hg fun r e => (hr r e).2, h3.grown hg this fun k e => by have := (hr k e).1; omega, h4⟩

set_option maxRecDepth 100000 in
set_option maxHeartbeats 4000000 in
theorem implTaut_lits {k f r u xp xn yp yn : Int} {ia : Option Addr} {im ic : Nat} {a b : Int} {xs : List (Int × Int)} {w : World} {lo hi : Nat} (hR : RP lo hi w ia im ic xs) (hhi : hi ≤ w.heap.size) (hT : TabD w) (hg : 1 < w.heap.size) (hok : clauseB k f r u xp xn yp yn xs a b = true) (h4 : k ≠ 4)
    (hwf : ∀ x : LT, x.atom < 24 → ∃ s, keyOf Tryd.prog 51 (keyX k f r u a b x) = some s) :
    Calls Tryd.prog 8 #[.agg #[.int .i64 k, .int .i64 f, .int .i64 r, .int .i64 u, .int .i64 xp, .int .i64 xn, .int .i64 yp, .int .i64 yn, .slice ia im ic, .int .i64 a, .int .i64 b]] w fun e w' => e = .returned (.bool (isTaut k f r u xp xn yp yn a b xs)) ∧ Below w.heap.size w w' := by
  obtain ⟨W, hW⟩ : ∃ W, W = (w.alloc (.cells #[.int .i64 k, .int .i64 f, .int .i64 r, .int .i64 u, .int .i64 xp, .int .i64 xn, .int .i64 yp, .int .i64 yn, .slice ia im ic, .int .i64 a, .int .i64 b] 32)).alloc (.cells #[.bool false] 4) := ⟨_, rfl⟩
  have HW : Hid (W = (w.alloc (.cells #[.int .i64 k, .int .i64 f, .int .i64 r, .int .i64 u, .int .i64 xp, .int .i64 xn, .int .i64 yp, .int .i64 yn, .slice ia im ic, .int .i64 a, .int .i64 b] 32)).alloc (.cells #[.bool false] 4)) := hW
  have hb0 : Below w.heap.size w W := by rw [hW]; exact ((Below.refl _ _).alloc (Nat.le_refl _) _).alloc (by simp) _
  have HB0 : Hid (Below w.heap.size w W) := hb0
  have hsz : w.heap.size + 1 < W.heap.size := by rw [hW]; simp
  have hkb : BoxK 32 W w.heap.size k f r u xp xn yp yn (.slice ia im ic) a b := by rw [hW]; exact (BoxK.new _ w _ _ _ _ _ _ _ _ _ _ _).below ((Below.refl _ _).alloc (Nat.le_refl _) _) (by simp)
  have hrs : Boxed W (w.heap.size + 1) 4 (.bool false) := by
    have := Boxed.new (w.alloc (.cells #[.int .i64 k, .int .i64 f, .int .i64 r, .int .i64 u, .int .i64 xp, .int .i64 xn, .int .i64 yp, .int .i64 yn, .slice ia im ic, .int .i64 a, .int .i64 b] 32)) 4 (.bool false)
    rw [World.size_alloc] at this
    rw [hW]; exact this
  have HRs : Hid (Boxed W (w.heap.size + 1) 4 (.bool false)) := hrs
  have HR : Hid (RP lo hi w ia im ic xs) := hR
  have HRW : Hid (RP lo hi W ia im ic xs) := hR.below hb0 hhi
  have HIm : Hid (im = 0 ∨ im = 4) := by unfold Hid; rw [← hR.len]; exact clauseB_inds hok
  have HPt : Hid (∀ x ∈ six xp xn yp yn xs, partB x.1 x.2 = true) := clauseB_parts hok
  have HTb : Hid (TabD w) := hT
  have h4' : (k == 4) = false := by simpa using h4
  have HKB : Hid (BoxK 32 W w.heap.size k f r u xp xn yp yn (.slice ia im ic) a b) := hkb
  obtain ⟨y0, y1, y2, y3, y4, y5, y6, y7, y8, y9, y10⟩ := hkb.cells
  clear hkb hR hb0 hT hrs hW h4
  refine (callsIn_wide (n := 6)).1 ?_
  refine callsIn_of_wp_marks Tryd.func8 rfl trivial ?_ rfl
  simp only [Tryd.ntmps8, List.size_toArray, List.length_cons, List.length_nil, Nat.reduceAdd, Nat.reduceSub, Array.replicate_succ, Array.replicate_zero, List.push_toArray, List.append_toArray, List.nil_append, List.cons_append]
  gi_upto_region 1 with fail
  rw [← HW.out]
  gi_wp2_with fail
  refine (callsIn_wide.2 (implClauseOk_any HRW.out (Nat.le_trans hhi HB0.out.size))).mono ?_
  rintro e w1 ⟨rfl, hb1⟩
  rw [hok]
  have HB1 : Hid (Below w.heap.size w w1) := HB0.out.trans (hb1.mono HB0.out.size)
  have hs1 := hb1.size
  have HKB1 : Hid (BoxK 32 w1 w.heap.size k f r u xp xn yp yn (.slice ia im ic) a b) := HKB.out.below hb1 (by omega)
  have HRS1 : Hid (Boxed w1 (w.heap.size + 1) 4 (.bool false)) := boxed_below HRs.out hb1 hsz
  clear hb1 y0 y1 y2 y3 y4 y5 y6 y7 y8 y9 y10
  obtain ⟨y0, y1, y2, y3, y4, y5, y6, y7, y8, y9, y10⟩ := HKB1.out.cells
  have hmk : (Instr.makeMap 44 none).run Tryd.prog w1 = .ok (.map (some w1.heap.size)) (w1.alloc (.map #[] 0)) := by simp [go_sem, Instr.makeMap]
  obtain ⟨Wm, hWm⟩ : ∃ Wm, Wm = w1.alloc (.map #[] 0) := ⟨_, rfl⟩
  rw [← hWm] at hmk
  have HWm : Hid (Wm = w1.alloc (.map #[] 0)) := hWm
  have hsm : Wm.heap.size = w1.heap.size + 1 := by rw [hWm]; simp
  obtain ⟨w2, hw2⟩ : ∃ wq, wq = Wm.alloc (.cells #[.map (some w1.heap.size)] 44) := ⟨_, rfl⟩
  have HW2 : Hid (w2 = Wm.alloc (.cells #[.map (some w1.heap.size)] 44)) := hw2
  have hb2 : Below w1.heap.size w1 w2 := by rw [hw2, hWm]; exact ((Below.refl _ _).alloc (Nat.le_refl _) _).alloc (by simp) _
  have hs2 : w1.heap.size + 1 + 1 ≤ w2.heap.size := by rw [hw2]; simp [hsm]
  have hmt : Boxed w2 (w1.heap.size + 1) 44 (.map (some w1.heap.size)) := by
    have := Boxed.new Wm 44 (.map (some w1.heap.size))
    rw [hsm] at this
    rw [hw2]; exact this
  have hmp : MapT Tryd.prog 51 w2 w1.heap.size (cntX k f r u a b []) := by
    rw [cntX_nil, hw2]
    have := MapT.made w1 Tryd.prog 51
    rw [← hWm] at this
    exact this.block (Below.heap_alloc _ _ _ (by omega))
  have HMt : Hid (Boxed w2 (w1.heap.size + 1) 44 (.map (some w1.heap.size))) := hmt
  have HMp : Hid (MapT Tryd.prog 51 w2 w1.heap.size (cntX k f r u a b [])) := hmp
  have HB2 : Hid (Below w.heap.size w w2) := HB1.out.trans (hb2.mono HB1.out.size)
  have HKB2 : Hid (BoxK 32 w2 w.heap.size k f r u xp xn yp yn (.slice ia im ic) a b) := HKB1.out.below hb2 (by omega)
  have HRS2 : Hid (Boxed w2 (w.heap.size + 1) 4 (.bool false)) := boxed_below HRS1.out hb2 (by omega)
  obtain ⟨mq, hmq⟩ : ∃ mq, mq = w1.heap.size := ⟨_, rfl⟩
  have HMq : Hid (mq = w1.heap.size) := hmq
  clear hWm hb2 hw2 hmt hmp hmq
  gi_upto_region 6 with fail
  rw [← HW2.out]
  clear y0 y1 y2 y3 y4 y5 y6 y7 y8 y9 y10 hmk hsm
  obtain ⟨y0, y1, y2, y3, y4, y5, y6, y7, y8, y9, y10⟩ := HKB2.out.cells
  gi_wp2_with fail
  refine (literals_inT _ w2).mono ?_
  rintro e w3 ⟨rfl, hw3⟩
  have hb3 : Below w2.heap.size w2 w3 := by rw [hw3]; exact (Below.refl _ _).alloc (Nat.le_refl _) _
  have HB3 : Hid (Below w.heap.size w w3) := HB2.out.trans (hb3.mono HB2.out.size)
  have hs3 : w2.heap.size + 1 ≤ w3.heap.size := by rw [hw3]; simp
  have HBt : Hid (BoxK 32 w3 w2.heap.size k f r u xp xn yp yn (.slice ia im ic) a b) := by unfold Hid; rw [hw3]; exact BoxK.new _ w2 _ _ _ _ _ _ _ _ _ _ _
  have HKB3 : Hid (BoxK 32 w3 w.heap.size k f r u xp xn yp yn (.slice ia im ic) a b) := HKB2.out.below hb3 (by omega)
  have HRS3 : Hid (Boxed w3 (w.heap.size + 1) 4 (.bool false)) := boxed_below HRS2.out hb3 (by omega)
  have HMt3 : Hid (Boxed w3 (w1.heap.size + 1) 44 (.map (some w1.heap.size))) := boxed_below HMt.out hb3 (by omega)
  have HMp3 : Hid (MapT Tryd.prog 51 w3 w1.heap.size (cntX k f r u a b [])) := HMp.out.block (hb3.block _ (by omega))
  clear hb3 hw3 y0 y1 y2 y3 y4 y5 y6 y7 y8 y9 y10
  gi_wp2_with fail
  refine wpIn_rangeFunc_ownH rfl (by omega) (gf := 37) (lb := #[.pointer (some ⟨w2.heap.size, 0, none⟩)]) rfl trivial (enters_of Tryd.func37 (by kernel_rfl) rfl)
    (lits_stopsX (lo := lo) (hi := hi) (B := w.heap.size) (n1 := w3.heap.size) 5 w2.heap.size hhi (by omega) hg HR.out HIm.out HPt.out HTb.out HB3.out (Nat.le_refl _) HBt.out) KpC.trans
    (fun W l o o' hl hW hc _ => KpC.putObj W l o o' (by omega) hW hc) (Below.refl _ _) (fun _ => rfl)
    (fun pre W => InvT w.heap.size w3.heap.size (w1.heap.size + 1) w1.heap.size k f r u a b #[.int .i64 k, .int .i64 f, .int .i64 r, .int .i64 u, .int .i64 xp, .int .i64 xn, .int .i64 yp, .int .i64 yn, .slice ia im ic, .int .i64 a, .int .i64 b] w (pre.map Subtype.val) W) (fun c pre W => InvTx w.heap.size k f r u a b w c (pre.map Subtype.val) W) (fun pre V V' row h hg hr => InvT.own (B := w3.heap.size) (by omega) (by omega) (pre.map Subtype.val) V V' row h hg hr) (fun c pre V V' row h hg hr => InvTx.own (B := w3.heap.size) (by omega) c (pre.map Subtype.val) V V' row h hg hr)
    ⟨HKB3.out, HRS3.out, HMt3.out, HMp3.out, HB3.out, List.Pairwise.nil, Nat.le_refl _⟩
    (fun x => AxT w3.heap.size 49 (fun lv bx => #[.agg #[.int .i64 k, .int .i64 f, .int .i64 r, .int .i64 u, .int .i64 xp, .int .i64 xn, .int .i64 yp, .int .i64 yn, .slice ia im ic, .int .i64 a, .int .i64 b], .pointer (some ⟨w.heap.size, 0, none⟩), .pointer (some ⟨w.heap.size + 1, 0, none⟩), .pointer (some ⟨w1.heap.size + 1, 0, none⟩), bx, undef, .agg #[.int .i64 k, .int .i64 f, .int .i64 r, .int .i64 u, .int .i64 xp, .int .i64 xn, .int .i64 yp, .int .i64 yn, .slice ia im ic, .int .i64 a, .int .i64 b], .bool true, .bool false, .pointer (some ⟨w.heap.size, 0, none⟩), .int .i64 k, .bool false, undef, undef, undef, undef, undef, .map (some w1.heap.size), .agg #[.int .i64 k, .int .i64 f, .int .i64 r, .int .i64 u, .int .i64 xp, .int .i64 xn, .int .i64 yp, .int .i64 yn, .slice ia im ic, .int .i64 a, .int .i64 b], .func (.func 37) #[] #[.pointer (some ⟨w2.heap.size, 0, none⟩)], lv, undef, undef, undef, undef, undef, undef, undef, undef, undef, undef, undef, undef, undef]) x.1) (fun x => AxT.own x.1) ?assign ?body ?done ?stop
  case assign =>
    rintro l pre ⟨x, hx6, hx24⟩ W K hI hK
    unfold encL
    have hlt := hI.size
    gi_wp2_with fail
    have hB : Below W.heap.size W (W.alloc (.cells #[.int .i64 (x.place : Nat), .int .i64 (x.atom : Nat), .bool x.no] 49)) := (Below.refl _ _).alloc (Nat.le_refl _) _
    exact hK _ _ ((keepsOthers_below hB).from _) (KpC.of_below hB (by omega)) ⟨(hB.block _ (Array.getElem?_eq_some_iff.1 hI.kb).1).trans hI.kb, hI.res.alloc _, hI.met.alloc _, hI.map.block (hB.block _ hI.map.lt), hI.bel.alloc (by omega) _, hI.good, Nat.le_trans hI.size hB.size⟩
      ⟨W.heap.size, hlt, World.alloc_heap_new W _, rfl⟩
  case body => as_aux_lemma =>
    rintro l pre ⟨x, hx6, hx24⟩ a' W hl ⟨r', hr'⟩ hI ⟨Bx, hBx, hbox, rfl⟩ hlen
    have HMapA : Hid ((pre ++ [(⟨x, hx6, hx24⟩ : LX)]).map Subtype.val = pre.map Subtype.val ++ [x]) := by unfold Hid; rw [List.map_append]; rfl
    obtain ⟨pr, hpr⟩ : ∃ pr, pr = pre.map Subtype.val := ⟨_, rfl⟩
    have HPr : Hid (pr = pre.map Subtype.val) := hpr
    have hI' : InvT w.heap.size w3.heap.size (w1.heap.size + 1) w1.heap.size k f r u a b #[.int .i64 k, .int .i64 f, .int .i64 r, .int .i64 u, .int .i64 xp, .int .i64 xn, .int .i64 yp, .int .i64 yn, .slice ia im ic, .int .i64 a, .int .i64 b] w pr W := by rw [hpr]; exact hI
    have HI : Hid (InvT w.heap.size w3.heap.size (w1.heap.size + 1) w1.heap.size k f r u a b #[.int .i64 k, .int .i64 f, .int .i64 r, .int .i64 u, .int .i64 xp, .int .i64 xn, .int .i64 yp, .int .i64 yn, .slice ia im ic, .int .i64 a, .int .i64 b] w pr W) := hI'
    have hKb : BoxK 32 W w.heap.size k f r u xp xn yp yn (.slice ia im ic) a b := hI'.kb
    obtain ⟨y0, y1, y2, y3, y4, y5, y6, y7, y8, y9, y10⟩ := hKb.cells
    have l0 : W.cell? ⟨Bx, 0, none⟩ = some (.int .i64 (x.place : Nat)) := by simp [World.cell?, hbox]
    have l1 : W.cell? ⟨Bx, 1, none⟩ = some (.int .i64 (x.atom : Nat)) := by simp [World.cell?, hbox]
    have l2 : W.cell? ⟨Bx, 2, none⟩ = some (.bool x.no) := by simp [World.cell?, hbox]
    have hsW := hI'.size
    clear hI hI' hKb hpr hbox hr' hlen
    gi_wp2_with fail
    refine ⟨trivial, (callsIn_wide.2 (atomAlone_any hx6 hx24 W)).mono ?_⟩
    rintro e W4 ⟨rfl, hb4⟩
    obtain ⟨cs, hcs⟩ : ∃ cs, cs = keyVs (keyL k f r u a b x.place ((2 : Int) ^ x.atom)) := ⟨_, rfl⟩
    have hkx : keyX k f r u a b x = .agg cs := by unfold keyX; rw [hcs]
    have hcn : cs.size = 18 := by rw [hcs, keyVs_size, keyL_len]
    have hone : cs.all (·.oneCell') = true := by rw [hcs]; exact keyVs_one _
    have HSz : Hid ((Tryd.prog.info? 51).map (·.size) = some cs.size) := by unfold Hid; rw [hcn]; exact Tryd.sizeKey
    rw [hkx]
    have hs4 := hb4.size
    obtain ⟨zs, hzs⟩ : ∃ zs : Array Value, zs = #[.int .i64 0, .int .i64 0, .int .i64 0, .int .i64 0, .int .i64 0, .int .i64 0, .int .i64 0, .int .i64 0, .int .i64 0, .int .i64 0, .int .i64 0, .int .i64 0, .int .i64 0, .int .i64 0, .int .i64 0, .int .i64 0, .int .i64 0, .int .i64 0] := ⟨_, rfl⟩
    obtain ⟨W5, hW5⟩ : ∃ W5, W5 = W4.alloc (.cells cs 51) := ⟨_, rfl⟩
    have HW5 : Hid (W5 = W4.alloc (.cells cs 51)) := hW5
    have hst : (storeCells ⟨W4.heap.size, 0, none⟩ cs.toList).run Tryd.prog (W4.alloc (.cells #[.int .i64 0, .int .i64 0, .int .i64 0, .int .i64 0, .int .i64 0, .int .i64 0, .int .i64 0, .int .i64 0, .int .i64 0, .int .i64 0, .int .i64 0, .int .i64 0, .int .i64 0, .int .i64 0, .int .i64 0, .int .i64 0, .int .i64 0, .int .i64 0] 51)) = .ok () W5 := by
      have h := run_storeCells_from (P := Tryd.prog) W4.heap.size 51 cs.toList 0 #[.int .i64 0, .int .i64 0, .int .i64 0, .int .i64 0, .int .i64 0, .int .i64 0, .int .i64 0, .int .i64 0, .int .i64 0, .int .i64 0, .int .i64 0, .int .i64 0, .int .i64 0, .int .i64 0, .int .i64 0, .int .i64 0, .int .i64 0, .int .i64 0] (W4.alloc (.cells #[.int .i64 0, .int .i64 0, .int .i64 0, .int .i64 0, .int .i64 0, .int .i64 0, .int .i64 0, .int .i64 0, .int .i64 0, .int .i64 0, .int .i64 0, .int .i64 0, .int .i64 0, .int .i64 0, .int .i64 0, .int .i64 0, .int .i64 0, .int .i64 0] 51)) (World.alloc_heap_new W4 _) (by simp [hcn]) (fun v hv => (Array.all_eq_true_iff_forall_mem.1 hone) v (by simpa using hv))
      rw [hW5, ← setRow_new W4 #[.int .i64 0, .int .i64 0, .int .i64 0, .int .i64 0, .int .i64 0, .int .i64 0, .int .i64 0, .int .i64 0, .int .i64 0, .int .i64 0, .int .i64 0, .int .i64 0, .int .i64 0, .int .i64 0, .int .i64 0, .int .i64 0, .int .i64 0, .int .i64 0] cs]
      rw [h]
      simp
    have hb5 : Below W4.heap.size W4 W5 := by rw [hW5]; exact (Below.refl _ _).alloc (Nat.le_refl _) _
    have HKy : Hid (W5.heap[W4.heap.size]? = some (.cells cs 51 (0, 0))) := by unfold Hid; rw [hW5]; exact World.alloc_heap_new W4 _
    have hs5 : W4.heap.size < W5.heap.size := by rw [hW5]; simp
    have hbW5 : Below W.heap.size W W5 := hb4.trans (hb5.mono hs4)
    have HBW5 : Hid (Below W.heap.size W W5) := hbW5
    have HM5 : Hid (MapT Tryd.prog 51 W5.drew w1.heap.size (cntX k f r u a b pr)) := HI.out.map.block (hbW5.block _ HI.out.map.lt)
    have hmet : Boxed W5 (w1.heap.size + 1) 44 (.map (some w1.heap.size)) := boxed_below HI.out.met hbW5 (Boxed.lt HI.out.met)
    have HMet : Hid (Boxed W5 (w1.heap.size + 1) 44 (.map (some w1.heap.size))) := hmet
    obtain ⟨ks, hks⟩ := hwf x hx24
    clear hcs hW5 hzs hb4 hb5 hbW5
    gi_upto_region 9 with fail
    clear hst
    have hld : ∀ V : World, V.heap[W4.heap.size]? = some (.cells cs 51 (0, 0)) → (loadVar 51 ⟨W4.heap.size, 0, none⟩).run Tryd.prog V = .ok (.agg cs) V := fun V hV => run_loadVar_row V _ _ _ cs (0, 0) _ hV Tryd.underlying51 rfl HSz.out
    obtain ⟨e0, e1, e2, e3, e4, e5, e6, e7, e8, e9, e10, e11, e12, e13, e14, e15, e16, e17, hcc⟩ := arr18 hcn
    by_cases hm : ∃ y ∈ pr, keyX k f r u a b y = keyX k f r u a b x
    · as_aux_lemma =>
      have HMm : Hid (∃ y ∈ pr, keyX k f r u a b y = keyX k f r u a b x) := hm
      obtain ⟨st, W6, W7, q1, q2, q3, q4, q5, q6, q7⟩ := HM5.out.step (cnt' := fun v => cntX k f r u a b pr v + cntX k f r u a b [x] v) Tryd.lawKey Tryd.mapKey Tryd.zeroInt hks (fun v hv => by simp [cntX, Ne.symm hv])
      rw [cntX_old hm] at q1 q2 q3 q4
      rw [show cntX k f r u a b [x] (keyX k f r u a b x) = 1 from cntX_last (pre := [])] at q4
      rw [show (1 : Int) + 1 = 2 from rfl] at q4
      rw [hkx] at q1 q2 q3
      obtain ⟨_, _, _, p1, _⟩ := q5.step (cnt' := (fun v => cntX k f r u a b pr v + cntX k f r u a b [x] v)) Tryd.lawKey Tryd.mapKey Tryd.zeroInt hks (fun _ _ => rfl)
      rw [cntX_old hm, show cntX k f r u a b [x] (keyX k f r u a b x) = 1 from cntX_last (pre := []), show (1 : Int) + 1 = 2 from rfl] at p1
      rw [hkx] at p1
      have cM : W5.drew.cell? ⟨w1.heap.size + 1, 0, none⟩ = some (.map (some w1.heap.size)) := Boxed.cell hmet
      have hl5 := hld W5.drew HKy.out
      have hlm : (loadVar 44 ⟨w1.heap.size + 1, 0, none⟩).run Tryd.prog W5.drew = .ok (.map (some w1.heap.size)) W5.drew := by simp [go_sem, cM]
      have hT7 : ∀ i, i ≠ w1.heap.size → W7.heap[i]? = W5.heap[i]? := fun i hi => q7.block i hi
      have hs7 : W5.heap.size ≤ W7.heap.size := Nat.le_of_eq q7.size.symm
      have hsw : w.heap.size + 1 < w1.heap.size := by omega
      have hw4 : w1.heap.size < W4.heap.size := by omega
      have HBe : Hid (Below w.heap.size W W7) := (HBW5.out.mono (by omega)).drew.trans (q7.below (by omega))
      have HBe7 : Hid (Below w.heap.size w W7) := HI.out.bel.trans HBe.out
      have hres7 : Boxed W7 (w.heap.size + 1) 4 (.bool false) := (hT7 _ (by omega)).trans (boxed_below HI.out.res HBW5.out (Boxed.lt HI.out.res))
      have HRes7 : Hid (Boxed W7 (w.heap.size + 1) 4 (.bool false)) := hres7
      have hmet7 : Boxed W7 (w1.heap.size + 1) 44 (.map (some w1.heap.size)) := (hT7 _ (by omega)).trans hmet
      have HMet7 : Hid (Boxed W7 (w1.heap.size + 1) 44 (.map (some w1.heap.size))) := hmet7
      have HSame : Hid (∀ (j : Nat) (o : Obj), w3.heap.size ≤ j → W.heap[j]? = some o → W7.heap[j]? = some o) := fun j o hj h0 => (hT7 j (by omega)).trans ((HBW5.out.block j (Array.getElem?_eq_some_iff.1 h0).1).trans h0)
      have HKb7 : Hid (W7.heap[w.heap.size]? = some (.cells #[.int .i64 k, .int .i64 f, .int .i64 r, .int .i64 u, .int .i64 xp, .int .i64 xn, .int .i64 yp, .int .i64 yn, .slice ia im ic, .int .i64 a, .int .i64 b] 32 (0, 0))) := (hT7 _ (by omega)).trans ((HBW5.out.block _ (Array.getElem?_eq_some_iff.1 HI.out.kb).1).trans HI.out.kb)
      have hk7 := (hT7 _ (by omega)).trans HKy.out
      rw [hcc] at hk7 p1
      have zz : W7.cell? ⟨W4.heap.size, 0, none⟩ = some e0 ∧ W7.cell? ⟨W4.heap.size, 1, none⟩ = some e1 ∧ W7.cell? ⟨W4.heap.size, 2, none⟩ = some e2 ∧ W7.cell? ⟨W4.heap.size, 3, none⟩ = some e3 ∧ W7.cell? ⟨W4.heap.size, 4, none⟩ = some e4 ∧ W7.cell? ⟨W4.heap.size, 5, none⟩ = some e5 ∧ W7.cell? ⟨W4.heap.size, 6, none⟩ = some e6 ∧ W7.cell? ⟨W4.heap.size, 7, none⟩ = some e7 ∧ W7.cell? ⟨W4.heap.size, 8, none⟩ = some e8 ∧ W7.cell? ⟨W4.heap.size, 9, none⟩ = some e9 ∧ W7.cell? ⟨W4.heap.size, 10, none⟩ = some e10 ∧ W7.cell? ⟨W4.heap.size, 11, none⟩ = some e11 ∧ W7.cell? ⟨W4.heap.size, 12, none⟩ = some e12 ∧ W7.cell? ⟨W4.heap.size, 13, none⟩ = some e13 ∧ W7.cell? ⟨W4.heap.size, 14, none⟩ = some e14 ∧ W7.cell? ⟨W4.heap.size, 15, none⟩ = some e15 ∧ W7.cell? ⟨W4.heap.size, 16, none⟩ = some e16 ∧ W7.cell? ⟨W4.heap.size, 17, none⟩ = some e17 := by refine ⟨?_, ?_, ?_, ?_, ?_, ?_, ?_, ?_, ?_, ?_, ?_, ?_, ?_, ?_, ?_, ?_, ?_, ?_⟩ <;> simp [World.cell?, hk7]
      have HM7 : Hid (MapT Tryd.prog 51 W7 w1.heap.size (fun v => cntX k f r u a b pr v + cntX k f r u a b [x] v)) := q5
      have cM7 := Boxed.cell hmet7
      have cR7 := Boxed.cell hres7
      have fR7 := Boxed.frozen hres7
      have hmx : Tryd.prog.follows .mixedOrders = true := by kernel_rfl
      refine region_round hmx (by kernel_rfl) (anyIn_of_any (fun _ _ h => h) _ _ _ _ ?_)
      have HCC : Hid (cs = #[e0, e1, e2, e3, e4, e5, e6, e7, e8, e9, e10, e11, e12, e13, e14, e15, e16, e17]) := hcc
      clear hcc
      change wpAny _ _ ops9 _ 7 #[false, false, false, false, false, false, false] _ _
      refine reg9 _ _ _ _ _ _ _ _ _ _ _ _ _ _ _ _ _ _ _ _ _ _ _ _ _ _ _ _ _ _ _ _ (c := 1) (c1 := 2) (by decide) hlm hl5 q1 q2 q3 q4 ?_
      clear q1 q2 q3 q4 q5 q6 q7 hlm hl5 cM hmet hmet7 hres7 hT7 hld hk7 hkx hm
      as_aux_lemma =>
      gi_wp2_with fail
      obtain ⟨y, hy, hye⟩ := HMm.out
      have hy6 : y.place < 6 := by
        have hy' := hy
        rw [HPr.out] at hy'
        obtain ⟨z, _, rfl⟩ := List.mem_map.1 hy'
        exact z.2.1
      exact ⟨⟨by simp; omega, fun j o hj h0 ho => (KeepsOthers.setCell _ _ _).same j o (HSame.out j o hj h0) ho⟩, rfl, Boxed.set _ HRes7.out, HBe7.out.setCell (p := ⟨w.heap.size + 1, 0, none⟩) (by show w.heap.size ≤ w.heap.size + 1; omega) _, pr, x, y, by rw [HMapA.out, ← HPr.out], hy, keyX_inj hy6 hx6 hye⟩
    · as_aux_lemma =>
      have HMm : Hid (¬ ∃ y ∈ pr, keyX k f r u a b y = keyX k f r u a b x) := hm
      have hcz := cntX_new hm
      obtain ⟨st, W6, W7, q1, q2, q3, q4, q5, q6, q7⟩ := HM5.out.step (cnt' := cntX k f r u a b (pr ++ [x])) Tryd.lawKey Tryd.mapKey Tryd.zeroInt hks (fun v hv => cntX_snoc v hv)
      rw [hcz] at q1 q2 q3
      rw [cntX_last] at q4
      rw [hkx] at q1 q2 q3
      obtain ⟨_, _, _, p1, _⟩ := q5.step (cnt' := (cntX k f r u a b (pr ++ [x]))) Tryd.lawKey Tryd.mapKey Tryd.zeroInt hks (fun _ _ => rfl)
      rw [cntX_last] at p1
      rw [hkx] at p1
      have cM : W5.drew.cell? ⟨w1.heap.size + 1, 0, none⟩ = some (.map (some w1.heap.size)) := Boxed.cell hmet
      have hl5 := hld W5.drew HKy.out
      have hlm : (loadVar 44 ⟨w1.heap.size + 1, 0, none⟩).run Tryd.prog W5.drew = .ok (.map (some w1.heap.size)) W5.drew := by simp [go_sem, cM]
      have hT7 : ∀ i, i ≠ w1.heap.size → W7.heap[i]? = W5.heap[i]? := fun i hi => q7.block i hi
      have hs7 : W5.heap.size ≤ W7.heap.size := Nat.le_of_eq q7.size.symm
      have hsw : w.heap.size + 1 < w1.heap.size := by omega
      have hw4 : w1.heap.size < W4.heap.size := by omega
      have HBe : Hid (Below w.heap.size W W7) := (HBW5.out.mono (by omega)).drew.trans (q7.below (by omega))
      have HBe7 : Hid (Below w.heap.size w W7) := HI.out.bel.trans HBe.out
      have hres7 : Boxed W7 (w.heap.size + 1) 4 (.bool false) := (hT7 _ (by omega)).trans (boxed_below HI.out.res HBW5.out (Boxed.lt HI.out.res))
      have HRes7 : Hid (Boxed W7 (w.heap.size + 1) 4 (.bool false)) := hres7
      have hmet7 : Boxed W7 (w1.heap.size + 1) 44 (.map (some w1.heap.size)) := (hT7 _ (by omega)).trans hmet
      have HMet7 : Hid (Boxed W7 (w1.heap.size + 1) 44 (.map (some w1.heap.size))) := hmet7
      have HSame : Hid (∀ (j : Nat) (o : Obj), w3.heap.size ≤ j → W.heap[j]? = some o → W7.heap[j]? = some o) := fun j o hj h0 => (hT7 j (by omega)).trans ((HBW5.out.block j (Array.getElem?_eq_some_iff.1 h0).1).trans h0)
      have HKb7 : Hid (W7.heap[w.heap.size]? = some (.cells #[.int .i64 k, .int .i64 f, .int .i64 r, .int .i64 u, .int .i64 xp, .int .i64 xn, .int .i64 yp, .int .i64 yn, .slice ia im ic, .int .i64 a, .int .i64 b] 32 (0, 0))) := (hT7 _ (by omega)).trans ((HBW5.out.block _ (Array.getElem?_eq_some_iff.1 HI.out.kb).1).trans HI.out.kb)
      have hk7 := (hT7 _ (by omega)).trans HKy.out
      rw [hcc] at hk7 p1
      have zz : W7.cell? ⟨W4.heap.size, 0, none⟩ = some e0 ∧ W7.cell? ⟨W4.heap.size, 1, none⟩ = some e1 ∧ W7.cell? ⟨W4.heap.size, 2, none⟩ = some e2 ∧ W7.cell? ⟨W4.heap.size, 3, none⟩ = some e3 ∧ W7.cell? ⟨W4.heap.size, 4, none⟩ = some e4 ∧ W7.cell? ⟨W4.heap.size, 5, none⟩ = some e5 ∧ W7.cell? ⟨W4.heap.size, 6, none⟩ = some e6 ∧ W7.cell? ⟨W4.heap.size, 7, none⟩ = some e7 ∧ W7.cell? ⟨W4.heap.size, 8, none⟩ = some e8 ∧ W7.cell? ⟨W4.heap.size, 9, none⟩ = some e9 ∧ W7.cell? ⟨W4.heap.size, 10, none⟩ = some e10 ∧ W7.cell? ⟨W4.heap.size, 11, none⟩ = some e11 ∧ W7.cell? ⟨W4.heap.size, 12, none⟩ = some e12 ∧ W7.cell? ⟨W4.heap.size, 13, none⟩ = some e13 ∧ W7.cell? ⟨W4.heap.size, 14, none⟩ = some e14 ∧ W7.cell? ⟨W4.heap.size, 15, none⟩ = some e15 ∧ W7.cell? ⟨W4.heap.size, 16, none⟩ = some e16 ∧ W7.cell? ⟨W4.heap.size, 17, none⟩ = some e17 := by refine ⟨?_, ?_, ?_, ?_, ?_, ?_, ?_, ?_, ?_, ?_, ?_, ?_, ?_, ?_, ?_, ?_, ?_, ?_⟩ <;> simp [World.cell?, hk7]
      have HM7 : Hid (MapT Tryd.prog 51 W7 w1.heap.size (cntX k f r u a b (pr ++ [x]))) := q5
      have cM7 := Boxed.cell hmet7
      have cR7 := Boxed.cell hres7
      have fR7 := Boxed.frozen hres7
      have hmx : Tryd.prog.follows .mixedOrders = true := by kernel_rfl
      refine region_round hmx (by kernel_rfl) (anyIn_of_any (fun _ _ h => h) _ _ _ _ ?_)
      have HCC : Hid (cs = #[e0, e1, e2, e3, e4, e5, e6, e7, e8, e9, e10, e11, e12, e13, e14, e15, e16, e17]) := hcc
      clear hcc
      change wpAny _ _ ops9 _ 7 #[false, false, false, false, false, false, false] _ _
      refine reg9 _ _ _ _ _ _ _ _ _ _ _ _ _ _ _ _ _ _ _ _ _ _ _ _ _ _ _ _ _ _ _ _ (c := 0) (c1 := 1) (by decide) hlm hl5 q1 q2 q3 q4 ?_
      clear q1 q2 q3 q4 q5 q6 q7 hlm hl5 cM hmet hmet7 hres7 hT7 hld hk7 hkx hm
      as_aux_lemma =>
      gi_wp2_with fail
      refine ⟨⟨by omega, fun j o hj h0 _ => HSame.out j o hj h0⟩, ⟨HBe.out, fun j o hj h0 _ => HSame.out j o hj h0⟩, ?_⟩
      show InvT _ _ _ _ _ _ _ _ _ _ _ _ ((pre ++ [(⟨x, hx6, hx24⟩ : LX)]).map Subtype.val) _
      rw [HMapA.out, ← HPr.out]
      exact ⟨HKb7.out, HRes7.out, HMet7.out, HM7.out, HBe7.out, List.pairwise_append.2 ⟨HI.out.good, by simp, fun y hy z hz ht => by
        rw [List.mem_singleton] at hz
        subst hz
        exact HMm.out ⟨y, hy, keyX_twin ht⟩⟩, by omega⟩
  case done => as_aux_lemma =>
    rintro D ys W hD hS hI hK
    have hgood := hI.good
    rw [show ys.map Subtype.val = litsL 0 (natP (six xp xn yp yn xs)) from hS] at hgood
    have HF : Hid (isTaut k f r u xp xn yp yn a b xs = false) := taut_no hok h4' hgood
    have hlr := Boxed.lt hI.res
    have cR := Boxed.cell hI.res
    have fR := Boxed.frozen hI.res
    have HRs' : Hid (Boxed W (w.heap.size + 1) 4 (.bool false)) := hI.res
    have HBl : Hid (Below w.heap.size w W) := hI.bel
    have HK4 : Hid (W.heap[D]? = some (.deferred (some []))) := hK
    clear hgood hS hI hK
    gi_wp2_with fail
    have hK' : (W.setCell ⟨w.heap.size + 1, 0, none⟩ (.bool false)).heap[D]? = some (.deferred (some [])) := (KeepsOthers.setCell _ _ _).same D _ HK4.out rfl
    refine ⟨by simp, .inl ⟨_, _, rfl, run_takeDeferred hK', ?_⟩⟩
    have hB := boxed_noncells (Boxed.set (.bool false) HRs'.out) (grownBy_putObj' _ D (.deferred none)) (fun r e => by cases e; exact ⟨_, hK', rfl⟩)
    have cB := Boxed.cell hB
    exact ⟨.bool false, by simp [results, Tryd.results8, go_sem, cB], rb HF.out.symm, (HBl.out.setCell (p := ⟨w.heap.size + 1, 0, none⟩) (by show w.heap.size ≤ w.heap.size + 1; omega) _).grown (grownBy_putObj' _ D _) (by simp; omega) (fun k e => by cases e; omega)⟩
  case stop => as_aux_lemma =>
    rintro D cd pre W hD hpre hI hK
    obtain ⟨rfl, hres, hbel, pr, x, y, hpr, hy, htw⟩ := hI
    rw [show (pre.map Subtype.val) = pr ++ [x] from hpr] at hpre
    have cR := Boxed.cell hres
    have hF : isTaut k f r u xp xn yp yn a b xs = true := taut_yes hok h4' hpre hy htw
    gi_wp2
    refine ⟨by simp, .inl ⟨_, _, rfl, run_takeDeferred hK, ?_⟩⟩
    have hB := boxed_noncells hres (grownBy_putObj' _ D (.deferred none)) (fun r e => by cases e; exact ⟨_, hK, rfl⟩)
    have cB := Boxed.cell hB
    exact ⟨.bool true, by simp [results, Tryd.results8, go_sem, cB], rb hF.symm, hbel.grown (grownBy_putObj' _ D _) (by have := Boxed.lt hres; omega) (fun k e => by cases e; omega)⟩

end Go.Proofs.YtcaljggnihinaaaDoor
