/- The program's text of one field and of what is told, at each kind. -/
import Derived.Test.YtodpaihndpjbfaaAxTxt
import Derived.Test.YtodpaihndpjbfaaConAddG
import Derived.Lib.OthersKept
import Derived.Test.YtodpaihndpjbfaaAxImpl1
import Derived.Deep.RegionHeldLaw
import Derived.Deep.DeepCutAuto
namespace Go.Proofs.Ytodpaihndpjbfaa
open Go.RowKit

theorem OwnB.cellsKept {base : Nat} {w w' : World} {v : Value} {zs : List Int} (h : OwnB base w v zs) (hk : ∀ (b : Nat) (o : Obj), w.heap[b]? = some o → o.isCells = true → w'.heap[b]? = some o) : OwnB base w' v zs := by
  obtain ⟨h1, h2⟩ := h
  refine ⟨h1, ?_⟩
  rcases h2 with h2 | ⟨g, cap, cur, hv, hg, hh, r⟩
  · exact .inl h2
  · exact .inr ⟨g, cap, cur, hv, hg, hk g _ hh rfl, r⟩

theorem OwnB.notIter {base : Nat} {w : World} {v : Value} {zs : List Int} (h : OwnB base w v zs) {it p : Nat} {s : ByteArray} (hi : w.heap[it]? = some (.stringIter s p)) : v.ownBlock ≠ some it := by
  intro e
  rcases h.2 with ⟨hv, _⟩ | ⟨g, cap, cur, hv, hg, hh, _⟩
  · rw [hv] at e; cases e
  · rw [hv] at e
    simp only [Value.ownBlock, Option.some.injEq] at e
    subst e
    rw [hh] at hi
    cases hi

theorem Keep5.iterAt {base : Nat} {w W : World} (h : Keep5 base w W) {it p : Nat} {s : ByteArray} (hi : W.heap[it]? = some (.stringIter s p)) (hb : base ≤ it) (p' : Nat) : Keep5 base w (W.iterAt it s p') :=
  ⟨Lib.below_iterAt h.1 hb s p', fun b c t f ht hh => by
    have h2 := h.2 b c t f ht hh
    rw [Lib.iterAt_other _ _ _ _ _ (fun e => by subst e; rw [hi] at h2; cases h2)]
    exact h2⟩

set_option maxRecDepth 100000 in
set_option maxHeartbeats 2000000 in
theorem addField_C {dp : Nat} {c0 c1 c2 c3 d0 d1 d2 d3 : Value} {ra : Option Addr} {rn rc : Nat} {sa : Option Addr} {sn sc : Nat} {aa : Option Addr} {an ac : Nat} {ba : Option Addr} {bn bc : Nat} {x : AX} {w : World} {lo hi base : Nat} {bv : Value} {xs : List Int} (k : Int) (h : RdA lo hi w dp c0 c1 c2 c3 d0 d1 d2 d3 ra rn rc sa sn sc aa an ac ba bn bc x) (hhi : hi ≤ base) (hbase : base ≤ w.heap.size) (hO : OwnB base w bv xs) (hwf : wfC x.c = true) (hlen : xs.length + (textC x.c).length ≤ 1073741824) :
    Calls Try.prog 189 #[bv, .agg #[.int .i64 k, c0, c1, c2, c3, d0, d1, d2, d3, .slice ra rn rc, .slice sa sn sc, .slice aa an ac, .slice ba bn bc], .int .i32 67] w fun e w' => ∃ bv', e = .returned bv' ∧ OwnB base w' bv' (xs ++ textC x.c) ∧ Keep6 base w bv w' bv' := by
  obtain ⟨W0, hW0⟩ : ∃ W0, W0 = w.alloc (.cells #[.int .i64 k, c0, c1, c2, c3, d0, d1, d2, d3, .slice ra rn rc, .slice sa sn sc, .slice aa an ac, .slice ba bn bc] 147) := ⟨_, rfl⟩
  have HW0 : Hid (W0 = w.alloc (.cells #[.int .i64 k, c0, c1, c2, c3, d0, d1, d2, d3, .slice ra rn rc, .slice sa sn sc, .slice aa an ac, .slice ba bn bc] 147)) := hW0
  have hb0 : Below w.heap.size w W0 := by rw [hW0]; exact (Below.refl _ _).alloc (Nat.le_refl _) _
  have HK0 : Hid (Keep6 base w bv W0 bv) := Keep6.of_below hb0 hbase
  have HO0 : Hid (OwnB base W0 bv xs) := hO.below hb0 (Nat.le_refl _)
  have hbx : BoxA 147 W0 w.heap.size k c0 c1 c2 c3 d0 d1 d2 d3 (.slice ra rn rc) (.slice sa sn sc) (.slice aa an ac) (.slice ba bn bc) := by rw [hW0]; exact BoxA.new _ w _ _ _ _ _ _ _ _ _ _ _ _ _
  have hs0 : base ≤ W0.heap.size := by have := hb0.size; omega
  obtain ⟨b0, b1, b2, b3, b4, b5, b6, b7, b8, b9, b10, b11, b12⟩ := hbx.cells
  have HR : Hid (RdC lo hi W0 dp (.agg #[c0, c1, c2, c3]) x.c) := h.c.below hb0 (Nat.le_trans hhi hbase)
  clear h hb0 hW0 hbx hO
  go_enter Try.func189, Try.ntmps189
  go_upto_region 1 with fail
  rw [← HW0.out]
  go_wp2_with fail
  refine (addG_any dp _ x.c bv xs W0 base lo hi HR.out hhi hs0 hwf HO0.out hlen).mono ?_
  rintro e w9 ⟨v9, rfl, hO9, hK9⟩
  have HO9 : Hid (OwnB base w9 v9 (xs ++ textC x.c)) := hO9
  have HK9 : Hid (Keep6 base w bv w9 v9) := HK0.out.trans hK9
  clear hO9 hK9
  go_wp2_with fail
  go_ret
  exact ⟨_, rfl, HO9.out, HK9.out⟩

set_option maxRecDepth 100000 in
set_option maxHeartbeats 2000000 in
theorem addField_D {dp : Nat} {c0 c1 c2 c3 d0 d1 d2 d3 : Value} {ra : Option Addr} {rn rc : Nat} {sa : Option Addr} {sn sc : Nat} {aa : Option Addr} {an ac : Nat} {ba : Option Addr} {bn bc : Nat} {x : AX} {w : World} {lo hi base : Nat} {bv : Value} {xs : List Int} (k : Int) (h : RdA lo hi w dp c0 c1 c2 c3 d0 d1 d2 d3 ra rn rc sa sn sc aa an ac ba bn bc x) (hhi : hi ≤ base) (hbase : base ≤ w.heap.size) (hO : OwnB base w bv xs) (hwf : wfC x.d = true) (hlen : xs.length + (textC x.d).length ≤ 1073741824) :
    Calls Try.prog 189 #[bv, .agg #[.int .i64 k, c0, c1, c2, c3, d0, d1, d2, d3, .slice ra rn rc, .slice sa sn sc, .slice aa an ac, .slice ba bn bc], .int .i32 68] w fun e w' => ∃ bv', e = .returned bv' ∧ OwnB base w' bv' (xs ++ textC x.d) ∧ Keep6 base w bv w' bv' := by
  obtain ⟨W0, hW0⟩ : ∃ W0, W0 = w.alloc (.cells #[.int .i64 k, c0, c1, c2, c3, d0, d1, d2, d3, .slice ra rn rc, .slice sa sn sc, .slice aa an ac, .slice ba bn bc] 147) := ⟨_, rfl⟩
  have HW0 : Hid (W0 = w.alloc (.cells #[.int .i64 k, c0, c1, c2, c3, d0, d1, d2, d3, .slice ra rn rc, .slice sa sn sc, .slice aa an ac, .slice ba bn bc] 147)) := hW0
  have hb0 : Below w.heap.size w W0 := by rw [hW0]; exact (Below.refl _ _).alloc (Nat.le_refl _) _
  have HK0 : Hid (Keep6 base w bv W0 bv) := Keep6.of_below hb0 hbase
  have HO0 : Hid (OwnB base W0 bv xs) := hO.below hb0 (Nat.le_refl _)
  have hbx : BoxA 147 W0 w.heap.size k c0 c1 c2 c3 d0 d1 d2 d3 (.slice ra rn rc) (.slice sa sn sc) (.slice aa an ac) (.slice ba bn bc) := by rw [hW0]; exact BoxA.new _ w _ _ _ _ _ _ _ _ _ _ _ _ _
  have hs0 : base ≤ W0.heap.size := by have := hb0.size; omega
  obtain ⟨b0, b1, b2, b3, b4, b5, b6, b7, b8, b9, b10, b11, b12⟩ := hbx.cells
  have HR : Hid (RdC lo hi W0 dp (.agg #[d0, d1, d2, d3]) x.d) := h.d.below hb0 (Nat.le_trans hhi hbase)
  clear h hb0 hW0 hbx hO
  go_enter Try.func189, Try.ntmps189
  go_upto_region 1 with fail
  rw [← HW0.out]
  go_wp2_with fail
  refine (addG_any dp _ x.d bv xs W0 base lo hi HR.out hhi hs0 hwf HO0.out hlen).mono ?_
  rintro e w9 ⟨v9, rfl, hO9, hK9⟩
  have HO9 : Hid (OwnB base w9 v9 (xs ++ textC x.d)) := hO9
  have HK9 : Hid (Keep6 base w bv w9 v9) := HK0.out.trans hK9
  clear hO9 hK9
  go_wp2_with fail
  go_ret
  exact ⟨_, rfl, HO9.out, HK9.out⟩

set_option maxRecDepth 100000 in
set_option maxHeartbeats 2000000 in
theorem addField_R {dp : Nat} {c0 c1 c2 c3 d0 d1 d2 d3 : Value} {ra : Option Addr} {rn rc : Nat} {sa : Option Addr} {sn sc : Nat} {aa : Option Addr} {an ac : Nat} {ba : Option Addr} {bn bc : Nat} {x : AX} {w : World} {lo hi base : Nat} {bv : Value} {xs : List Int} (k : Int) (h : RdA lo hi w dp c0 c1 c2 c3 d0 d1 d2 d3 ra rn rc sa sn sc aa an ac ba bn bc x) (hhi : hi ≤ base) (hbase : base ≤ w.heap.size) (hO : OwnB base w bv xs) (h1 : 1 ≤ x.r.length) (hlen : xs.length + x.r.length ≤ 1073741824) :
    Calls Try.prog 189 #[bv, .agg #[.int .i64 k, c0, c1, c2, c3, d0, d1, d2, d3, .slice ra rn rc, .slice sa sn sc, .slice aa an ac, .slice ba bn bc], .int .i32 82] w fun e w' => ∃ bv', e = .returned bv' ∧ OwnB base w' bv' (xs ++ x.r) ∧ Keep6 base w bv w' bv' := by
  obtain ⟨W0, hW0⟩ : ∃ W0, W0 = w.alloc (.cells #[.int .i64 k, c0, c1, c2, c3, d0, d1, d2, d3, .slice ra rn rc, .slice sa sn sc, .slice aa an ac, .slice ba bn bc] 147) := ⟨_, rfl⟩
  have HW0 : Hid (W0 = w.alloc (.cells #[.int .i64 k, c0, c1, c2, c3, d0, d1, d2, d3, .slice ra rn rc, .slice sa sn sc, .slice aa an ac, .slice ba bn bc] 147)) := hW0
  have hb0 : Below w.heap.size w W0 := by rw [hW0]; exact (Below.refl _ _).alloc (Nat.le_refl _) _
  have HK0 : Hid (Keep6 base w bv W0 bv) := Keep6.of_below hb0 hbase
  have HO0 : Hid (OwnB base W0 bv xs) := hO.below hb0 (Nat.le_refl _)
  have hbx : BoxA 147 W0 w.heap.size k c0 c1 c2 c3 d0 d1 d2 d3 (.slice ra rn rc) (.slice sa sn sc) (.slice aa an ac) (.slice ba bn bc) := by rw [hW0]; exact BoxA.new _ w _ _ _ _ _ _ _ _ _ _ _ _ _
  have hs0 : base ≤ W0.heap.size := by have := hb0.size; omega
  obtain ⟨b0, b1, b2, b3, b4, b5, b6, b7, b8, b9, b10, b11, b12⟩ := hbx.cells
  have HR : Hid (Rd lo hi W0 ra rn rc x.r) := h.r.below hb0 (Nat.le_trans hhi hbase)
  have hl := h.r.len
  rw [hl] at h1 hlen
  clear h hb0 hW0 hbx hO hl
  go_enter Try.func189, Try.ntmps189
  go_upto_region 1 with fail
  rw [← HW0.out]
  go_wp2_with (at_builtin; refine list_appB rfl (.tmp 22) (.tmp 24) rfl base bv xs rfl HO0.out lo hi ra rn rc x.r rfl HR.out h1 hlen hs0 ?_; intro v9 w9 hO9 hK9; have HO9 : Hid (OwnB base w9 v9 (xs ++ x.r)) := hO9; have HK9 : Hid (Keep6 base w bv w9 v9) := HK0.out.trans hK9; clear hO9 hK9)
  go_ret
  exact ⟨_, rfl, HO9.out, HK9.out⟩

set_option maxRecDepth 100000 in
set_option maxHeartbeats 2000000 in
theorem addField_S {dp : Nat} {c0 c1 c2 c3 d0 d1 d2 d3 : Value} {ra : Option Addr} {rn rc : Nat} {sa : Option Addr} {sn sc : Nat} {aa : Option Addr} {an ac : Nat} {ba : Option Addr} {bn bc : Nat} {x : AX} {w : World} {lo hi base : Nat} {bv : Value} {xs : List Int} (k : Int) (h : RdA lo hi w dp c0 c1 c2 c3 d0 d1 d2 d3 ra rn rc sa sn sc aa an ac ba bn bc x) (hhi : hi ≤ base) (hbase : base ≤ w.heap.size) (hO : OwnB base w bv xs) (h1 : 1 ≤ x.s.length) (hlen : xs.length + x.s.length ≤ 1073741824) :
    Calls Try.prog 189 #[bv, .agg #[.int .i64 k, c0, c1, c2, c3, d0, d1, d2, d3, .slice ra rn rc, .slice sa sn sc, .slice aa an ac, .slice ba bn bc], .int .i32 83] w fun e w' => ∃ bv', e = .returned bv' ∧ OwnB base w' bv' (xs ++ x.s) ∧ Keep6 base w bv w' bv' := by
  obtain ⟨W0, hW0⟩ : ∃ W0, W0 = w.alloc (.cells #[.int .i64 k, c0, c1, c2, c3, d0, d1, d2, d3, .slice ra rn rc, .slice sa sn sc, .slice aa an ac, .slice ba bn bc] 147) := ⟨_, rfl⟩
  have HW0 : Hid (W0 = w.alloc (.cells #[.int .i64 k, c0, c1, c2, c3, d0, d1, d2, d3, .slice ra rn rc, .slice sa sn sc, .slice aa an ac, .slice ba bn bc] 147)) := hW0
  have hb0 : Below w.heap.size w W0 := by rw [hW0]; exact (Below.refl _ _).alloc (Nat.le_refl _) _
  have HK0 : Hid (Keep6 base w bv W0 bv) := Keep6.of_below hb0 hbase
  have HO0 : Hid (OwnB base W0 bv xs) := hO.below hb0 (Nat.le_refl _)
  have hbx : BoxA 147 W0 w.heap.size k c0 c1 c2 c3 d0 d1 d2 d3 (.slice ra rn rc) (.slice sa sn sc) (.slice aa an ac) (.slice ba bn bc) := by rw [hW0]; exact BoxA.new _ w _ _ _ _ _ _ _ _ _ _ _ _ _
  have hs0 : base ≤ W0.heap.size := by have := hb0.size; omega
  obtain ⟨b0, b1, b2, b3, b4, b5, b6, b7, b8, b9, b10, b11, b12⟩ := hbx.cells
  have HR : Hid (Rd lo hi W0 sa sn sc x.s) := h.s.below hb0 (Nat.le_trans hhi hbase)
  have hl := h.s.len
  rw [hl] at h1 hlen
  clear h hb0 hW0 hbx hO hl
  go_enter Try.func189, Try.ntmps189
  go_upto_region 1 with fail
  rw [← HW0.out]
  go_wp2_with (at_builtin; refine list_appB rfl (.tmp 28) (.tmp 30) rfl base bv xs rfl HO0.out lo hi sa sn sc x.s rfl HR.out h1 hlen hs0 ?_; intro v9 w9 hO9 hK9; have HO9 : Hid (OwnB base w9 v9 (xs ++ x.s)) := hO9; have HK9 : Hid (Keep6 base w bv w9 v9) := HK0.out.trans hK9; clear hO9 hK9)
  go_ret
  exact ⟨_, rfl, HO9.out, HK9.out⟩

set_option maxRecDepth 100000 in
set_option maxHeartbeats 2000000 in
theorem addField_A {dp : Nat} {c0 c1 c2 c3 d0 d1 d2 d3 : Value} {ra : Option Addr} {rn rc : Nat} {sa : Option Addr} {sn sc : Nat} {aa : Option Addr} {an ac : Nat} {ba : Option Addr} {bn bc : Nat} {x : AX} {w : World} {lo hi base : Nat} {bv : Value} {xs : List Int} (k : Int) (h : RdA lo hi w dp c0 c1 c2 c3 d0 d1 d2 d3 ra rn rc sa sn sc aa an ac ba bn bc x) (hhi : hi ≤ base) (hbase : base ≤ w.heap.size) (hO : OwnB base w bv xs) (h1 : 1 ≤ x.a.length) (hlen : xs.length + x.a.length ≤ 1073741824) :
    Calls Try.prog 189 #[bv, .agg #[.int .i64 k, c0, c1, c2, c3, d0, d1, d2, d3, .slice ra rn rc, .slice sa sn sc, .slice aa an ac, .slice ba bn bc], .int .i32 65] w fun e w' => ∃ bv', e = .returned bv' ∧ OwnB base w' bv' (xs ++ x.a) ∧ Keep6 base w bv w' bv' := by
  obtain ⟨W0, hW0⟩ : ∃ W0, W0 = w.alloc (.cells #[.int .i64 k, c0, c1, c2, c3, d0, d1, d2, d3, .slice ra rn rc, .slice sa sn sc, .slice aa an ac, .slice ba bn bc] 147) := ⟨_, rfl⟩
  have HW0 : Hid (W0 = w.alloc (.cells #[.int .i64 k, c0, c1, c2, c3, d0, d1, d2, d3, .slice ra rn rc, .slice sa sn sc, .slice aa an ac, .slice ba bn bc] 147)) := hW0
  have hb0 : Below w.heap.size w W0 := by rw [hW0]; exact (Below.refl _ _).alloc (Nat.le_refl _) _
  have HK0 : Hid (Keep6 base w bv W0 bv) := Keep6.of_below hb0 hbase
  have HO0 : Hid (OwnB base W0 bv xs) := hO.below hb0 (Nat.le_refl _)
  have hbx : BoxA 147 W0 w.heap.size k c0 c1 c2 c3 d0 d1 d2 d3 (.slice ra rn rc) (.slice sa sn sc) (.slice aa an ac) (.slice ba bn bc) := by rw [hW0]; exact BoxA.new _ w _ _ _ _ _ _ _ _ _ _ _ _ _
  have hs0 : base ≤ W0.heap.size := by have := hb0.size; omega
  obtain ⟨b0, b1, b2, b3, b4, b5, b6, b7, b8, b9, b10, b11, b12⟩ := hbx.cells
  have HR : Hid (Rd lo hi W0 aa an ac x.a) := h.a.below hb0 (Nat.le_trans hhi hbase)
  have hl := h.a.len
  rw [hl] at h1 hlen
  clear h hb0 hW0 hbx hO hl
  go_enter Try.func189, Try.ntmps189
  go_upto_region 1 with fail
  rw [← HW0.out]
  go_wp2_with (at_builtin; refine list_appB rfl (.tmp 34) (.tmp 36) rfl base bv xs rfl HO0.out lo hi aa an ac x.a rfl HR.out h1 hlen hs0 ?_; intro v9 w9 hO9 hK9; have HO9 : Hid (OwnB base w9 v9 (xs ++ x.a)) := hO9; have HK9 : Hid (Keep6 base w bv w9 v9) := HK0.out.trans hK9; clear hO9 hK9)
  go_ret
  exact ⟨_, rfl, HO9.out, HK9.out⟩

set_option maxRecDepth 100000 in
set_option maxHeartbeats 2000000 in
theorem addField_B {dp : Nat} {c0 c1 c2 c3 d0 d1 d2 d3 : Value} {ra : Option Addr} {rn rc : Nat} {sa : Option Addr} {sn sc : Nat} {aa : Option Addr} {an ac : Nat} {ba : Option Addr} {bn bc : Nat} {x : AX} {w : World} {lo hi base : Nat} {bv : Value} {xs : List Int} (k : Int) (h : RdA lo hi w dp c0 c1 c2 c3 d0 d1 d2 d3 ra rn rc sa sn sc aa an ac ba bn bc x) (hhi : hi ≤ base) (hbase : base ≤ w.heap.size) (hO : OwnB base w bv xs) (h1 : 1 ≤ x.b.length) (hlen : xs.length + x.b.length ≤ 1073741824) :
    Calls Try.prog 189 #[bv, .agg #[.int .i64 k, c0, c1, c2, c3, d0, d1, d2, d3, .slice ra rn rc, .slice sa sn sc, .slice aa an ac, .slice ba bn bc], .int .i32 66] w fun e w' => ∃ bv', e = .returned bv' ∧ OwnB base w' bv' (xs ++ x.b) ∧ Keep6 base w bv w' bv' := by
  obtain ⟨W0, hW0⟩ : ∃ W0, W0 = w.alloc (.cells #[.int .i64 k, c0, c1, c2, c3, d0, d1, d2, d3, .slice ra rn rc, .slice sa sn sc, .slice aa an ac, .slice ba bn bc] 147) := ⟨_, rfl⟩
  have HW0 : Hid (W0 = w.alloc (.cells #[.int .i64 k, c0, c1, c2, c3, d0, d1, d2, d3, .slice ra rn rc, .slice sa sn sc, .slice aa an ac, .slice ba bn bc] 147)) := hW0
  have hb0 : Below w.heap.size w W0 := by rw [hW0]; exact (Below.refl _ _).alloc (Nat.le_refl _) _
  have HK0 : Hid (Keep6 base w bv W0 bv) := Keep6.of_below hb0 hbase
  have HO0 : Hid (OwnB base W0 bv xs) := hO.below hb0 (Nat.le_refl _)
  have hbx : BoxA 147 W0 w.heap.size k c0 c1 c2 c3 d0 d1 d2 d3 (.slice ra rn rc) (.slice sa sn sc) (.slice aa an ac) (.slice ba bn bc) := by rw [hW0]; exact BoxA.new _ w _ _ _ _ _ _ _ _ _ _ _ _ _
  have hs0 : base ≤ W0.heap.size := by have := hb0.size; omega
  obtain ⟨b0, b1, b2, b3, b4, b5, b6, b7, b8, b9, b10, b11, b12⟩ := hbx.cells
  have HR : Hid (Rd lo hi W0 ba bn bc x.b) := h.b.below hb0 (Nat.le_trans hhi hbase)
  have hl := h.b.len
  rw [hl] at h1 hlen
  clear h hb0 hW0 hbx hO hl
  go_enter Try.func189, Try.ntmps189
  go_upto_region 1 with fail
  rw [← HW0.out]
  go_wp2_with (at_builtin; refine list_appB rfl (.tmp 38) (.tmp 40) rfl base bv xs rfl HO0.out lo hi ba bn bc x.b rfl HR.out h1 hlen hs0 ?_; intro v9 w9 hO9 hK9; have HO9 : Hid (OwnB base w9 v9 (xs ++ x.b)) := hO9; have HK9 : Hid (Keep6 base w bv w9 v9) := HK0.out.trans hK9; clear hO9 hK9)
  go_ret
  exact ⟨_, rfl, HO9.out, HK9.out⟩

set_option maxRecDepth 100000 in
set_option maxHeartbeats 4000000 in
theorem addAx_g {dp : Nat} {c0 c1 c2 c3 d0 d1 d2 d3 : Value} {ra : Option Addr} {rn rc : Nat} {sa : Option Addr} {sn sc : Nat} {aa : Option Addr} {an ac : Nat} {ba : Option Addr} {bn bc : Nat} {x : AX} {w : World} {lo hi base : Nat} {bv : Value} {xs : List Int} (h : RdA lo hi w dp c0 c1 c2 c3 d0 d1 d2 d3 ra rn rc sa sn sc aa an ac ba bn bc x) (hhi : hi ≤ base) (hbase : base ≤ w.heap.size) (hok : axOk x = true) (kq : Int) (hq : kq = 0 ∨ kq = 1 ∨ kq = 2) (hk : x.kind = kq) (hO : OwnB base w bv xs) (hlen : xs.length ≤ 536870912) :
    Calls Try.prog 109 #[bv, .agg #[.int .i64 kq, c0, c1, c2, c3, d0, d1, d2, d3, .slice ra rn rc, .slice sa sn sc, .slice aa an ac, .slice ba bn bc]] w fun e w' => ∃ bv', e = .returned bv' ∧ OwnB base w' bv' (xs ++ axSay x) ∧ Keep5 base w w' := by
  obtain ⟨_, fC, fD, fR, fS, fA, fB⟩ := axOk_facts hok
  have lC := textC_320 (fitC_ok fC)
  have HWC : Hid (wfC x.c = true) := wfC_of_ok (fitC_ok fC)
  have lD := textC_320 (fitC_ok fD)
  have HWD : Hid (wfC x.d = true) := wfC_of_ok (fitC_ok fD)
  have HR : Hid (RdA lo hi w dp c0 c1 c2 c3 d0 d1 d2 d3 ra rn rc sa sn sc aa an ac ba bn bc x) := h
  have HTx : Hid (xs ++ axSay x = xs ++ axWord kq ++ [40] ++ textC x.c ++ [32] ++ textC x.d ++ [41]) := by unfold Hid axSay; rw [hk, show fieldsN kq = [67, 68] from by rcases hq with rfl | rfl | rfl <;> rfl]; simp [fldsT, fldT]
  have HFs : Hid (fieldsS kq = ⟨#[67, 68]⟩) := by rcases hq with rfl | rfl | rfl <;> rfl
  have hwl : (axWord kq).length ≤ 4 := axWord_len _
  obtain ⟨i0, hi0, hz0, hz1, hz2⟩ := info_parts Try.info5
  obtain ⟨W0, hW0⟩ : ∃ W0, W0 = w.alloc (.cells #[.int .i64 kq, c0, c1, c2, c3, d0, d1, d2, d3, .slice ra rn rc, .slice sa sn sc, .slice aa an ac, .slice ba bn bc] 147) := ⟨_, rfl⟩
  have HW0 : Hid (W0 = w.alloc (.cells #[.int .i64 kq, c0, c1, c2, c3, d0, d1, d2, d3, .slice ra rn rc, .slice sa sn sc, .slice aa an ac, .slice ba bn bc] 147)) := hW0
  have hb0 : Below w.heap.size w W0 := by rw [hW0]; exact (Below.refl _ _).alloc (Nat.le_refl _) _
  have HK0 : Hid (Keep5 base w W0) := Keep5.of_below hb0 hbase
  have HO0 : Hid (OwnB base W0 bv xs) := hO.below hb0 (Nat.le_refl _)
  have hbx : BoxA 147 W0 w.heap.size kq c0 c1 c2 c3 d0 d1 d2 d3 (.slice ra rn rc) (.slice sa sn sc) (.slice aa an ac) (.slice ba bn bc) := by rw [hW0]; exact BoxA.new _ w _ _ _ _ _ _ _ _ _ _ _ _ _
  have HBx0 : Hid (BoxA 147 W0 w.heap.size kq c0 c1 c2 c3 d0 d1 d2 d3 (.slice ra rn rc) (.slice sa sn sc) (.slice aa an ac) (.slice ba bn bc)) := hbx
  have hs0 : base ≤ W0.heap.size := by have := hb0.size; omega
  obtain ⟨b0, b1, b2, b3, b4, b5, b6, b7, b8, b9, b10, b11, b12⟩ := hbx.cells
  clear h hb0 hW0 hbx hO fC fD fR fS fA fB
  go_enter Try.func109, Try.ntmps109
  go_upto_region 1 with fail
  rw [← HW0.out]
  go_upto_region 3 with (first | (go_at_call 188; refine (axiomWord_any _ _).mono ?_; rintro e w' ⟨rfl, hw⟩; rw [hw]; clear hw) | (at_builtin; refine list_append_strAt rfl (.tmp 8) (.tmp 11) 22 9 rfl base 5 i0 Try.underlying22 Try.underlying9 hi0 hz0 hz1 hz2 bv xs.length (xs.map (Value.int .u8)) rfl HO0.out (axWordB kq) rfl (by rw [axWordB_size]; unfold maxLen; omega) (by rw [axWordB_size]; omega) hs0 ?_; intro v1 w1 hown' hgrow hat; have HF1 : Hid (OwnB base w1 v1 (xs ++ axWord kq) ∧ Keep6 base W0 bv w1 v1) := ownB_axStr HO0.out hs0 hown' hgrow hat; clear hown' hgrow hat; have HBx1 : Hid (BoxA 147 w1 w.heap.size kq c0 c1 c2 c3 d0 d1 d2 d3 (.slice ra rn rc) (.slice sa sn sc) (.slice aa an ac) (.slice ba bn bc)) := HBx0.out.keep6 (by decide) HF1.out.2; clear b0 b1 b2 b3 b4 b5 b6 b7 b8 b9 b10 b11 b12; obtain ⟨b0, b1, b2, b3, b4, b5, b6, b7, b8, b9, b10, b11, b12⟩ := HBx1.out.cells))
  obtain ⟨x1, hx1⟩ : ∃ x1, x1 = xs ++ axWord kq := ⟨_, rfl⟩
  have HXx1 : Hid (x1 = xs ++ axWord kq) := hx1
  have hlx1 : x1.length ≤ xs.length + 4 := by rw [hx1, List.length_append]; omega
  have HK1 : Hid (Keep5 base w w1) := HK0.out.trans HF1.out.2.k5
  have hs1 : base ≤ w1.heap.size := Nat.le_trans hbase HK1.out.1.size
  obtain ⟨I0, hI0⟩ : ∃ I0, I0 = w1.iter ⟨#[67, 68]⟩ 0 := ⟨_, rfl⟩
  have HI0 : Hid (I0 = w1.iter ⟨#[67, 68]⟩ 0) := hI0
  have hbI : Below w1.heap.size w1 I0 := by rw [hI0]; exact (Below.refl _ _).alloc (Nat.le_refl _) _
  have HItI0 : Hid (I0.heap[w1.heap.size]? = some (.stringIter ⟨#[67, 68]⟩ 0)) := by unfold Hid; rw [hI0]; exact World.iter_heap w1 _ _
  have HOI0 : Hid (OwnB base I0 v1 x1) := by unfold Hid; rw [hx1]; exact HF1.out.1.below hbI (Nat.le_refl _)
  have HKI0 : Hid (Keep5 base w I0) := HK1.out.trans (Keep5.of_below hbI hs1)
  have HBI0 : Hid (BoxA 147 I0 w.heap.size kq c0 c1 c2 c3 d0 d1 d2 d3 (.slice ra rn rc) (.slice sa sn sc) (.slice aa an ac) (.slice ba bn bc)) := HBx1.out.below hbI HBx1.out.lt
  have hsI0 : base ≤ I0.heap.size := Nat.le_trans hs1 hbI.size
  clear hI0 hbI hx1 HF1 HBx1 HK1 HK0 HO0 HBx0
  go_wp2_with (first | (go_at_call 179; refine (axiomFields_any _ _).mono ?_; rintro e w' ⟨rfl, hw⟩; rw [hw, HFs.out]; clear hw))
  rw [← HI0.out]
  refine wp_loop_rounds 3 ?_
  rw [rounds_succ]
  obtain ⟨N0, hN⟩ : ∃ W, W = I0.iterAt w1.heap.size ⟨#[67, 68]⟩ 1 := ⟨_, rfl⟩
  have hnx : ∀ ty, (Instr.next (.pointer (some ⟨w1.heap.size, 0, none⟩)) true ty).run Try.prog I0 = .ok (.tuple #[.bool true, .int .i64 0, .int .i32 67]) N0 := fun ty => by rw [hN]; exact Lib.run_next_ascii_at I0 w1.heap.size ⟨#[67, 68]⟩ 0 ty HItI0.out (by decide) (by decide)
  have HItN0 : Hid (N0.heap[w1.heap.size]? = some (.stringIter ⟨#[67, 68]⟩ 1)) := by unfold Hid; rw [hN]; exact Lib.iterAt_heap _ _ _ _ _ HItI0.out
  have hsz : N0.heap.size = I0.heap.size := by rw [hN]; exact Lib.iterAt_size _ _ _ _
  have hoth : ∀ (b : Nat) (o : Obj), I0.heap[b]? = some o → o.isCells = true → N0.heap[b]? = some o := fun b o hb hc => by
    rw [hN, Lib.iterAt_other _ _ _ _ _ (fun e => by subst e; rw [HItI0.out] at hb; cases hb; cases hc)]; exact hb
  have HON0 : Hid (OwnB base N0 v1 x1) := HOI0.out.cellsKept hoth
  have HBN0 : Hid (BoxA 147 N0 w.heap.size kq c0 c1 c2 c3 d0 d1 d2 d3 (.slice ra rn rc) (.slice sa sn sc) (.slice aa an ac) (.slice ba bn bc)) := hoth _ _ HBI0.out rfl
  have HKN0 : Hid (Keep5 base w N0) := by unfold Hid; rw [hN]; exact HKI0.out.iterAt HItI0.out hs1 _
  have hsN0 : base ≤ N0.heap.size := by omega
  clear hN hoth; clear b0 b1 b2 b3 b4 b5 b6 b7 b8 b9 b10 b11 b12
  obtain ⟨b0, b1, b2, b3, b4, b5, b6, b7, b8, b9, b10, b11, b12⟩ := HBN0.out.cells
  go_upto_region 6 with fail
  clear hnx
  obtain ⟨D0, hD⟩ : ∃ V, V = N0.drew := ⟨_, rfl⟩
  have HDD0 : Hid (D0 = N0.drew) := hD
  have hbV : Below N0.heap.size N0 D0 := by rw [hD]; exact (Below.refl _ _).drew
  have HKD0 : Hid (Keep5 base w D0) := HKN0.out.trans (Keep5.of_below hbV hsN0)
  have HOD0 : Hid (OwnB base D0 v1 x1) := HON0.out.below hbV (Nat.le_refl _)
  have HBD0 : Hid (BoxA 147 D0 w.heap.size kq c0 c1 c2 c3 d0 d1 d2 d3 (.slice ra rn rc) (.slice sa sn sc) (.slice aa an ac) (.slice ba bn bc)) := HBN0.out.below hbV HBN0.out.lt
  have hsD0 : base ≤ D0.heap.size := Nat.le_trans hsN0 hbV.size
  have HItD0 : Hid (D0.heap[w1.heap.size]? = some (.stringIter ⟨#[67, 68]⟩ 1)) := (hbV.block _ (Array.getElem?_eq_some_iff.1 HItN0.out).1).trans HItN0.out
  clear hD hbV b0 b1 b2 b3 b4 b5 b6 b7 b8 b9 b10 b11 b12
  refine wp_region_held_drew (S := fun W => BoxA 147 W w.heap.size kq c0 c1 c2 c3 d0 d1 d2 d3 (.slice ra rn rc) (.slice sa sn sc) (.slice aa an ac) (.slice ba bn bc)) (by kernel_rfl) ?_ (fun hHeld => ?_)
  · exact HBN0.out
  rw [← HDD0.out] at hHeld ⊢
  refine wpAnyH_take (i := 0) (v := ?_) rfl (by kernel_rfl) (by kernel_rfl) (by kernel_rfl) (fun _ _ _ h => h) (Or.inl ⟨by rfl, ?_⟩) (by assumption) ?_
  rotate_left
  · intro w' hSw
    (try dsimp only at hSw)
    obtain ⟨t0, t1, t2, t3, t4, t5, t6, t7, t8, t9, t10, t11, t12⟩ := BoxA.cells hSw
    go_simp
    (try with_reducible rfl)
  (try simp only [Act.put]); (try simp only [List.setIfInBounds_toArray]); (try simp only [List.set_cons_succ]); (try simp only [List.set_cons_zero])
  refine wpAnyH_take (i := 1) (v := ?_) rfl (by kernel_rfl) (by kernel_rfl) (by kernel_rfl) (fun _ _ _ h => h) (Or.inl ⟨by rfl, ?_⟩) (by assumption) ?_
  rotate_left
  · intro w' hSw
    (try dsimp only at hSw)
    obtain ⟨t0, t1, t2, t3, t4, t5, t6, t7, t8, t9, t10, t11, t12⟩ := BoxA.cells hSw
    go_simp
    (try with_reducible rfl)
  (try simp only [Act.put]); (try simp only [List.setIfInBounds_toArray]); (try simp only [List.set_cons_succ]); (try simp only [List.set_cons_zero])
  refine wpAnyH_take (i := 4) (v := ?_) rfl (by kernel_rfl) (by kernel_rfl) (by kernel_rfl) (fun _ _ _ h => h) (Or.inl ⟨by rfl, ?_⟩) (by assumption) ?_
  rotate_left
  · intro w' hSw
    (try dsimp only at hSw)
    obtain ⟨t0, t1, t2, t3, t4, t5, t6, t7, t8, t9, t10, t11, t12⟩ := BoxA.cells hSw
    go_simp
    (try with_reducible rfl)
  (try simp only [Act.put]); (try simp only [List.setIfInBounds_toArray]); (try simp only [List.set_cons_succ]); (try simp only [List.set_cons_zero])
  refine wpAnyH_take (i := 5) (v := ?_) rfl (by kernel_rfl) (by kernel_rfl) (by kernel_rfl) (fun _ _ _ h => h) (Or.inl ⟨by rfl, ?_⟩) (by assumption) ?_
  rotate_left
  · intro w' hSw
    (try dsimp only at hSw)
    obtain ⟨t0, t1, t2, t3, t4, t5, t6, t7, t8, t9, t10, t11, t12⟩ := BoxA.cells hSw
    go_simp
    (try with_reducible rfl)
  (try simp only [Act.put]); (try simp only [List.setIfInBounds_toArray]); (try simp only [List.set_cons_succ]); (try simp only [List.set_cons_zero])
  refine wpAnyH_ready (rs := [2]) (by kernel_rfl) (by simp) ?_
  refine AllReadyH.cons rfl (fun K hK => ?_) AllReadyH.nil
  obtain ⟨G0, hWz⟩ : ∃ W, W = D0.alloc (.cells #[.int .u8 40] 5) := ⟨_, rfl⟩
  have HWG0 : Hid (G0 = D0.alloc (.cells #[.int .u8 40] 5)) := hWz
  have hbz : Below D0.heap.size D0 G0 := by rw [hWz]; exact (Below.refl _ _).alloc (Nat.le_refl _) _
  have HZG0 : Hid (G0.heap[D0.heap.size]? = some (.cells #[.int .u8 40] 5 (0, 0))) := by unfold Hid; rw [hWz]; exact World.alloc_heap_new D0 _
  have HOG0 : Hid (OwnB base G0 v1 x1) := HOD0.out.below hbz (Nat.le_refl _)
  have HKG0 : Hid (Keep5 base w G0) := HKD0.out.trans (Keep5.of_below hbz hsD0)
  have HBG0 : Hid (BoxA 147 G0 w.heap.size kq c0 c1 c2 c3 d0 d1 d2 d3 (.slice ra rn rc) (.slice sa sn sc) (.slice aa an ac) (.slice ba bn bc)) := HBD0.out.below hbz HBD0.out.lt
  have hsG0 : base ≤ G0.heap.size := Nat.le_trans hsD0 hbz.size
  have HItG0 : Hid (G0.heap[w1.heap.size]? = some (.stringIter ⟨#[67, 68]⟩ 1)) := (hbz.block _ (Array.getElem?_eq_some_iff.1 HItD0.out).1).trans HItD0.out
  clear hWz hbz
  go_simp
  rw [← HWG0.out]
  refine hK.out _ _ ?_ (fun hHeld => ?_)
  · exact HBG0.out
  clear hK K; (try simp only [Act.put]); (try simp only [List.setIfInBounds_toArray]); (try simp only [List.set_cons_succ]); (try simp only [List.set_cons_zero])
  refine wpAnyH_ready (rs := [3]) (by kernel_rfl) (by simp) ?_
  refine AllReadyH.cons rfl (fun K hK => ?_) AllReadyH.nil
  refine step_appB rfl (.tmp 20) (.tmp 22) rfl base v1 x1 (by simp [Act.eval]) HOG0.out D0.heap.size (D0.heap.size + 1) _ 1 1 [40] (by simp [Act.eval]) (one_rd HZG0.out (by omega) (by omega)) (Nat.le_refl _) (by omega) hsG0 ?_
  intro y1 Y1 hO' hK'
  obtain ⟨z1, hz1⟩ : ∃ z, z = x1 ++ [40] := ⟨_, rfl⟩
  rw [← hz1] at hO'
  have HXz1 : Hid (z1 = x1 ++ [40]) := hz1
  have hlz1 : z1.length ≤ xs.length + 5 := by rw [hz1, List.length_append]; (try simp only [List.length_cons, List.length_nil]); omega
  have HOY1 : Hid (OwnB base Y1 y1 z1) := hO'
  have HKY1 : Hid (Keep5 base w Y1) := HKG0.out.trans hK'.k5
  have HBY1 : Hid (BoxA 147 Y1 w.heap.size kq c0 c1 c2 c3 d0 d1 d2 d3 (.slice ra rn rc) (.slice sa sn sc) (.slice aa an ac) (.slice ba bn bc)) := HBG0.out.keep6 (by decide) hK'
  have hsY1 : base ≤ Y1.heap.size := Nat.le_trans hsG0 hK'.k5.1.size
  have HItY1 : Hid (Y1.heap[w1.heap.size]? = some (.stringIter ⟨#[67, 68]⟩ 1)) := (hK'.gr _ (Array.getElem?_eq_some_iff.1 HItG0.out).1 (HOG0.out.notIter HItG0.out)).trans HItG0.out
  clear hO' hK' hz1
  refine hK.out _ _ ?_ (fun hHeld => ?_)
  · exact HBY1.out
  clear hK K; (try simp only [Act.put]); (try simp only [List.setIfInBounds_toArray]); (try simp only [List.set_cons_succ]); (try simp only [List.set_cons_zero])
  refine wpAnyH_ready (rs := [6]) (by kernel_rfl) (by simp) ?_
  refine AllReadyH.cons rfl (fun K hK => ?_) AllReadyH.nil
  go_simp
  refine (addField_C kq (HR.out.below HKY1.out.1 hhi) hhi hsY1 HOY1.out HWC.out (by omega)).mono ?_
  rintro e Y2 ⟨y2, rfl, hO', hK'⟩
  obtain ⟨z2, hz2⟩ : ∃ z, z = z1 ++ textC x.c := ⟨_, rfl⟩
  rw [← hz2] at hO'
  have HXz2 : Hid (z2 = z1 ++ textC x.c) := hz2
  have hlz2 : z2.length ≤ xs.length + 325 := by rw [hz2, List.length_append]; (try simp only [List.length_cons, List.length_nil]); omega
  have HOY2 : Hid (OwnB base Y2 y2 z2) := hO'
  have HKY2 : Hid (Keep5 base w Y2) := HKY1.out.trans hK'.k5
  have HBY2 : Hid (BoxA 147 Y2 w.heap.size kq c0 c1 c2 c3 d0 d1 d2 d3 (.slice ra rn rc) (.slice sa sn sc) (.slice aa an ac) (.slice ba bn bc)) := HBY1.out.keep6 (by decide) hK'
  have hsY2 : base ≤ Y2.heap.size := Nat.le_trans hsY1 hK'.k5.1.size
  have HItY2 : Hid (Y2.heap[w1.heap.size]? = some (.stringIter ⟨#[67, 68]⟩ 1)) := (hK'.gr _ (Array.getElem?_eq_some_iff.1 HItY1.out).1 (HOY1.out.notIter HItY1.out)).trans HItY1.out
  clear hO' hK' hz2
  try dsimp only
  refine hK.out _ _ ?_ (fun hHeld => ?_)
  · exact HBY2.out
  clear hK K; (try simp only [Act.put]); (try simp only [List.setIfInBounds_toArray]); (try simp only [List.set_cons_succ]); (try simp only [List.set_cons_zero])
  refine wpAnyH_take (i := 7) (v := ?_) rfl (by kernel_rfl) (by kernel_rfl) (by kernel_rfl) (fun _ _ _ h => h) (Or.inl ⟨by rfl, ?_⟩) (by assumption) ?_
  rotate_left
  · intro w' hSw
    (try dsimp only at hSw)
    obtain ⟨t0, t1, t2, t3, t4, t5, t6, t7, t8, t9, t10, t11, t12⟩ := BoxA.cells hSw
    go_simp
    (try with_reducible rfl)
  (try simp only [Act.put]); (try simp only [List.setIfInBounds_toArray]); (try simp only [List.set_cons_succ]); (try simp only [List.set_cons_zero])
  refine wpAnyH_done (by kernel_rfl) ?_ _
  (try go_simp)
  obtain ⟨b0, b1, b2, b3, b4, b5, b6, b7, b8, b9, b10, b11, b12⟩ := HBY2.out.cells
  go_wp2_with fail
  rw [rounds_succ]
  obtain ⟨N1, hN⟩ : ∃ W, W = Y2.iterAt w1.heap.size ⟨#[67, 68]⟩ 2 := ⟨_, rfl⟩
  have hnx : ∀ ty, (Instr.next (.pointer (some ⟨w1.heap.size, 0, none⟩)) true ty).run Try.prog Y2 = .ok (.tuple #[.bool true, .int .i64 1, .int .i32 68]) N1 := fun ty => by rw [hN]; exact Lib.run_next_ascii_at Y2 w1.heap.size ⟨#[67, 68]⟩ 1 ty HItY2.out (by decide) (by decide)
  have HItN1 : Hid (N1.heap[w1.heap.size]? = some (.stringIter ⟨#[67, 68]⟩ 2)) := by unfold Hid; rw [hN]; exact Lib.iterAt_heap _ _ _ _ _ HItY2.out
  have hsz : N1.heap.size = Y2.heap.size := by rw [hN]; exact Lib.iterAt_size _ _ _ _
  have hoth : ∀ (b : Nat) (o : Obj), Y2.heap[b]? = some o → o.isCells = true → N1.heap[b]? = some o := fun b o hb hc => by
    rw [hN, Lib.iterAt_other _ _ _ _ _ (fun e => by subst e; rw [HItY2.out] at hb; cases hb; cases hc)]; exact hb
  have HON1 : Hid (OwnB base N1 y2 z2) := HOY2.out.cellsKept hoth
  have HBN1 : Hid (BoxA 147 N1 w.heap.size kq c0 c1 c2 c3 d0 d1 d2 d3 (.slice ra rn rc) (.slice sa sn sc) (.slice aa an ac) (.slice ba bn bc)) := hoth _ _ HBY2.out rfl
  have HKN1 : Hid (Keep5 base w N1) := by unfold Hid; rw [hN]; exact HKY2.out.iterAt HItY2.out hs1 _
  have hsN1 : base ≤ N1.heap.size := by omega
  clear hN hoth; clear b0 b1 b2 b3 b4 b5 b6 b7 b8 b9 b10 b11 b12
  obtain ⟨b0, b1, b2, b3, b4, b5, b6, b7, b8, b9, b10, b11, b12⟩ := HBN1.out.cells
  go_upto_region 6 with fail
  clear hnx
  obtain ⟨D1, hD⟩ : ∃ V, V = N1.drew := ⟨_, rfl⟩
  have HDD1 : Hid (D1 = N1.drew) := hD
  have hbV : Below N1.heap.size N1 D1 := by rw [hD]; exact (Below.refl _ _).drew
  have HKD1 : Hid (Keep5 base w D1) := HKN1.out.trans (Keep5.of_below hbV hsN1)
  have HOD1 : Hid (OwnB base D1 y2 z2) := HON1.out.below hbV (Nat.le_refl _)
  have HBD1 : Hid (BoxA 147 D1 w.heap.size kq c0 c1 c2 c3 d0 d1 d2 d3 (.slice ra rn rc) (.slice sa sn sc) (.slice aa an ac) (.slice ba bn bc)) := HBN1.out.below hbV HBN1.out.lt
  have hsD1 : base ≤ D1.heap.size := Nat.le_trans hsN1 hbV.size
  have HItD1 : Hid (D1.heap[w1.heap.size]? = some (.stringIter ⟨#[67, 68]⟩ 2)) := (hbV.block _ (Array.getElem?_eq_some_iff.1 HItN1.out).1).trans HItN1.out
  clear hD hbV b0 b1 b2 b3 b4 b5 b6 b7 b8 b9 b10 b11 b12
  refine wp_region_held_drew (S := fun W => BoxA 147 W w.heap.size kq c0 c1 c2 c3 d0 d1 d2 d3 (.slice ra rn rc) (.slice sa sn sc) (.slice aa an ac) (.slice ba bn bc)) (by kernel_rfl) ?_ (fun hHeld => ?_)
  · exact HBN1.out
  rw [← HDD1.out] at hHeld ⊢
  refine wpAnyH_take (i := 0) (v := ?_) rfl (by kernel_rfl) (by kernel_rfl) (by kernel_rfl) (fun _ _ _ h => h) (Or.inl ⟨by rfl, ?_⟩) (by assumption) ?_
  rotate_left
  · intro w' hSw
    (try dsimp only at hSw)
    obtain ⟨t0, t1, t2, t3, t4, t5, t6, t7, t8, t9, t10, t11, t12⟩ := BoxA.cells hSw
    go_simp
    (try with_reducible rfl)
  (try simp only [Act.put]); (try simp only [List.setIfInBounds_toArray]); (try simp only [List.set_cons_succ]); (try simp only [List.set_cons_zero])
  refine wpAnyH_take (i := 1) (v := ?_) rfl (by kernel_rfl) (by kernel_rfl) (by kernel_rfl) (fun _ _ _ h => h) (Or.inl ⟨by rfl, ?_⟩) (by assumption) ?_
  rotate_left
  · intro w' hSw
    (try dsimp only at hSw)
    obtain ⟨t0, t1, t2, t3, t4, t5, t6, t7, t8, t9, t10, t11, t12⟩ := BoxA.cells hSw
    go_simp
    (try with_reducible rfl)
  (try simp only [Act.put]); (try simp only [List.setIfInBounds_toArray]); (try simp only [List.set_cons_succ]); (try simp only [List.set_cons_zero])
  refine wpAnyH_take (i := 4) (v := ?_) rfl (by kernel_rfl) (by kernel_rfl) (by kernel_rfl) (fun _ _ _ h => h) (Or.inl ⟨by rfl, ?_⟩) (by assumption) ?_
  rotate_left
  · intro w' hSw
    (try dsimp only at hSw)
    obtain ⟨t0, t1, t2, t3, t4, t5, t6, t7, t8, t9, t10, t11, t12⟩ := BoxA.cells hSw
    go_simp
    (try with_reducible rfl)
  (try simp only [Act.put]); (try simp only [List.setIfInBounds_toArray]); (try simp only [List.set_cons_succ]); (try simp only [List.set_cons_zero])
  refine wpAnyH_take (i := 5) (v := ?_) rfl (by kernel_rfl) (by kernel_rfl) (by kernel_rfl) (fun _ _ _ h => h) (Or.inl ⟨by rfl, ?_⟩) (by assumption) ?_
  rotate_left
  · intro w' hSw
    (try dsimp only at hSw)
    obtain ⟨t0, t1, t2, t3, t4, t5, t6, t7, t8, t9, t10, t11, t12⟩ := BoxA.cells hSw
    go_simp
    (try with_reducible rfl)
  (try simp only [Act.put]); (try simp only [List.setIfInBounds_toArray]); (try simp only [List.set_cons_succ]); (try simp only [List.set_cons_zero])
  refine wpAnyH_ready (rs := [2]) (by kernel_rfl) (by simp) ?_
  refine AllReadyH.cons rfl (fun K hK => ?_) AllReadyH.nil
  obtain ⟨G1, hWz⟩ : ∃ W, W = D1.alloc (.cells #[.int .u8 32] 5) := ⟨_, rfl⟩
  have HWG1 : Hid (G1 = D1.alloc (.cells #[.int .u8 32] 5)) := hWz
  have hbz : Below D1.heap.size D1 G1 := by rw [hWz]; exact (Below.refl _ _).alloc (Nat.le_refl _) _
  have HZG1 : Hid (G1.heap[D1.heap.size]? = some (.cells #[.int .u8 32] 5 (0, 0))) := by unfold Hid; rw [hWz]; exact World.alloc_heap_new D1 _
  have HOG1 : Hid (OwnB base G1 y2 z2) := HOD1.out.below hbz (Nat.le_refl _)
  have HKG1 : Hid (Keep5 base w G1) := HKD1.out.trans (Keep5.of_below hbz hsD1)
  have HBG1 : Hid (BoxA 147 G1 w.heap.size kq c0 c1 c2 c3 d0 d1 d2 d3 (.slice ra rn rc) (.slice sa sn sc) (.slice aa an ac) (.slice ba bn bc)) := HBD1.out.below hbz HBD1.out.lt
  have hsG1 : base ≤ G1.heap.size := Nat.le_trans hsD1 hbz.size
  have HItG1 : Hid (G1.heap[w1.heap.size]? = some (.stringIter ⟨#[67, 68]⟩ 2)) := (hbz.block _ (Array.getElem?_eq_some_iff.1 HItD1.out).1).trans HItD1.out
  clear hWz hbz
  go_simp
  rw [← HWG1.out]
  refine hK.out _ _ ?_ (fun hHeld => ?_)
  · exact HBG1.out
  clear hK K; (try simp only [Act.put]); (try simp only [List.setIfInBounds_toArray]); (try simp only [List.set_cons_succ]); (try simp only [List.set_cons_zero])
  refine wpAnyH_ready (rs := [3]) (by kernel_rfl) (by simp) ?_
  refine AllReadyH.cons rfl (fun K hK => ?_) AllReadyH.nil
  refine step_appB rfl (.tmp 20) (.tmp 22) rfl base y2 z2 (by simp [Act.eval]) HOG1.out D1.heap.size (D1.heap.size + 1) _ 1 1 [32] (by simp [Act.eval]) (one_rd HZG1.out (by omega) (by omega)) (Nat.le_refl _) (by omega) hsG1 ?_
  intro y3 Y3 hO' hK'
  obtain ⟨z3, hz3⟩ : ∃ z, z = z2 ++ [32] := ⟨_, rfl⟩
  rw [← hz3] at hO'
  have HXz3 : Hid (z3 = z2 ++ [32]) := hz3
  have hlz3 : z3.length ≤ xs.length + 326 := by rw [hz3, List.length_append]; (try simp only [List.length_cons, List.length_nil]); omega
  have HOY3 : Hid (OwnB base Y3 y3 z3) := hO'
  have HKY3 : Hid (Keep5 base w Y3) := HKG1.out.trans hK'.k5
  have HBY3 : Hid (BoxA 147 Y3 w.heap.size kq c0 c1 c2 c3 d0 d1 d2 d3 (.slice ra rn rc) (.slice sa sn sc) (.slice aa an ac) (.slice ba bn bc)) := HBG1.out.keep6 (by decide) hK'
  have hsY3 : base ≤ Y3.heap.size := Nat.le_trans hsG1 hK'.k5.1.size
  have HItY3 : Hid (Y3.heap[w1.heap.size]? = some (.stringIter ⟨#[67, 68]⟩ 2)) := (hK'.gr _ (Array.getElem?_eq_some_iff.1 HItG1.out).1 (HOG1.out.notIter HItG1.out)).trans HItG1.out
  clear hO' hK' hz3
  refine hK.out _ _ ?_ (fun hHeld => ?_)
  · exact HBY3.out
  clear hK K; (try simp only [Act.put]); (try simp only [List.setIfInBounds_toArray]); (try simp only [List.set_cons_succ]); (try simp only [List.set_cons_zero])
  refine wpAnyH_ready (rs := [6]) (by kernel_rfl) (by simp) ?_
  refine AllReadyH.cons rfl (fun K hK => ?_) AllReadyH.nil
  go_simp
  refine (addField_D kq (HR.out.below HKY3.out.1 hhi) hhi hsY3 HOY3.out HWD.out (by omega)).mono ?_
  rintro e Y4 ⟨y4, rfl, hO', hK'⟩
  obtain ⟨z4, hz4⟩ : ∃ z, z = z3 ++ textC x.d := ⟨_, rfl⟩
  rw [← hz4] at hO'
  have HXz4 : Hid (z4 = z3 ++ textC x.d) := hz4
  have hlz4 : z4.length ≤ xs.length + 646 := by rw [hz4, List.length_append]; (try simp only [List.length_cons, List.length_nil]); omega
  have HOY4 : Hid (OwnB base Y4 y4 z4) := hO'
  have HKY4 : Hid (Keep5 base w Y4) := HKY3.out.trans hK'.k5
  have HBY4 : Hid (BoxA 147 Y4 w.heap.size kq c0 c1 c2 c3 d0 d1 d2 d3 (.slice ra rn rc) (.slice sa sn sc) (.slice aa an ac) (.slice ba bn bc)) := HBY3.out.keep6 (by decide) hK'
  have hsY4 : base ≤ Y4.heap.size := Nat.le_trans hsY3 hK'.k5.1.size
  have HItY4 : Hid (Y4.heap[w1.heap.size]? = some (.stringIter ⟨#[67, 68]⟩ 2)) := (hK'.gr _ (Array.getElem?_eq_some_iff.1 HItY3.out).1 (HOY3.out.notIter HItY3.out)).trans HItY3.out
  clear hO' hK' hz4
  try dsimp only
  refine hK.out _ _ ?_ (fun hHeld => ?_)
  · exact HBY4.out
  clear hK K; (try simp only [Act.put]); (try simp only [List.setIfInBounds_toArray]); (try simp only [List.set_cons_succ]); (try simp only [List.set_cons_zero])
  refine wpAnyH_take (i := 7) (v := ?_) rfl (by kernel_rfl) (by kernel_rfl) (by kernel_rfl) (fun _ _ _ h => h) (Or.inl ⟨by rfl, ?_⟩) (by assumption) ?_
  rotate_left
  · intro w' hSw
    (try dsimp only at hSw)
    obtain ⟨t0, t1, t2, t3, t4, t5, t6, t7, t8, t9, t10, t11, t12⟩ := BoxA.cells hSw
    go_simp
    (try with_reducible rfl)
  (try simp only [Act.put]); (try simp only [List.setIfInBounds_toArray]); (try simp only [List.set_cons_succ]); (try simp only [List.set_cons_zero])
  refine wpAnyH_done (by kernel_rfl) ?_ _
  (try go_simp)
  obtain ⟨b0, b1, b2, b3, b4, b5, b6, b7, b8, b9, b10, b11, b12⟩ := HBY4.out.cells
  go_wp2_with fail
  rw [rounds_succ]
  have hnx : ∀ ty, (Instr.next (.pointer (some ⟨w1.heap.size, 0, none⟩)) true ty).run Try.prog Y4 = .ok (.tuple #[.bool false]) Y4 := fun ty => Lib.run_next_end_at Y4 w1.heap.size ⟨#[67, 68]⟩ 2 ty HItY4.out (by decide)
  have HBAl : Hid (Below Y4.heap.size Y4 (Y4.alloc (.cells #[.int .u8 41] 5))) := (Below.refl _ _).alloc (Nat.le_refl _) _
  have HOl : Hid (OwnB base (Y4.alloc (.cells #[.int .u8 41] 5)) y4 z4) := HOY4.out.below HBAl.out (Nat.le_refl _)
  have HSl : Hid (base ≤ (Y4.alloc (.cells #[.int .u8 41] 5)).heap.size) := Nat.le_trans hsY4 HBAl.out.size
  go_wp2_with (at_builtin; refine list_appB rfl (.tmp 27) (.tmp 28) rfl base y4 z4 rfl HOl.out Y4.heap.size (Y4.heap.size + 1) _ 1 1 [41] rfl (one_alloc Y4 41 (by omega) (by omega)) (Nat.le_refl _) (by omega) HSl.out ?_; intro v9 w9 hO9 hK9; have HO9 : Hid (OwnB base w9 v9 (z4 ++ [41])) := hO9; have HK9 : Hid (Keep5 base w w9) := (HKY4.out.trans (Keep5.of_below HBAl.out hsY4)).trans hK9.k5; clear hO9 hK9)
  go_ret
  refine ⟨_, rfl, ?_, HK9.out⟩
  have e9 := HO9.out
  rw [HXz4.out, HXz3.out, HXz2.out, HXz1.out, HXx1.out] at e9
  rw [HTx.out]
  exact e9

set_option maxRecDepth 100000 in
set_option maxHeartbeats 4000000 in
theorem addAx_3 {dp : Nat} {c0 c1 c2 c3 d0 d1 d2 d3 : Value} {ra : Option Addr} {rn rc : Nat} {sa : Option Addr} {sn sc : Nat} {aa : Option Addr} {an ac : Nat} {ba : Option Addr} {bn bc : Nat} {x : AX} {w : World} {lo hi base : Nat} {bv : Value} {xs : List Int} (h : RdA lo hi w dp c0 c1 c2 c3 d0 d1 d2 d3 ra rn rc sa sn sc aa an ac ba bn bc x) (hhi : hi ≤ base) (hbase : base ≤ w.heap.size) (hok : axOk x = true) (hk : x.kind = 3) (hO : OwnB base w bv xs) (hlen : xs.length ≤ 536870912) :
    Calls Try.prog 109 #[bv, .agg #[.int .i64 3, c0, c1, c2, c3, d0, d1, d2, d3, .slice ra rn rc, .slice sa sn sc, .slice aa an ac, .slice ba bn bc]] w fun e w' => ∃ bv', e = .returned bv' ∧ OwnB base w' bv' (xs ++ axSay x) ∧ Keep5 base w w' := by
  obtain ⟨_, fC, fD, fR, fS, fA, fB⟩ := axOk_facts hok
  have lR := fitL_want fR (by rw [hk]; rfl)
  have lS := fitL_want fS (by rw [hk]; rfl)
  have HR : Hid (RdA lo hi w dp c0 c1 c2 c3 d0 d1 d2 d3 ra rn rc sa sn sc aa an ac ba bn bc x) := h
  have HTx : Hid (xs ++ axSay x = xs ++ axWord 3 ++ [40] ++ x.r ++ [32] ++ x.s ++ [41]) := by unfold Hid axSay; rw [hk]; simp [fieldsN, fldsT, fldT]
  have hwl : (axWord 3).length ≤ 4 := axWord_len _
  obtain ⟨i0, hi0, hz0, hz1, hz2⟩ := info_parts Try.info5
  obtain ⟨W0, hW0⟩ : ∃ W0, W0 = w.alloc (.cells #[.int .i64 3, c0, c1, c2, c3, d0, d1, d2, d3, .slice ra rn rc, .slice sa sn sc, .slice aa an ac, .slice ba bn bc] 147) := ⟨_, rfl⟩
  have HW0 : Hid (W0 = w.alloc (.cells #[.int .i64 3, c0, c1, c2, c3, d0, d1, d2, d3, .slice ra rn rc, .slice sa sn sc, .slice aa an ac, .slice ba bn bc] 147)) := hW0
  have hb0 : Below w.heap.size w W0 := by rw [hW0]; exact (Below.refl _ _).alloc (Nat.le_refl _) _
  have HK0 : Hid (Keep5 base w W0) := Keep5.of_below hb0 hbase
  have HO0 : Hid (OwnB base W0 bv xs) := hO.below hb0 (Nat.le_refl _)
  have hbx : BoxA 147 W0 w.heap.size 3 c0 c1 c2 c3 d0 d1 d2 d3 (.slice ra rn rc) (.slice sa sn sc) (.slice aa an ac) (.slice ba bn bc) := by rw [hW0]; exact BoxA.new _ w _ _ _ _ _ _ _ _ _ _ _ _ _
  have HBx0 : Hid (BoxA 147 W0 w.heap.size 3 c0 c1 c2 c3 d0 d1 d2 d3 (.slice ra rn rc) (.slice sa sn sc) (.slice aa an ac) (.slice ba bn bc)) := hbx
  have hs0 : base ≤ W0.heap.size := by have := hb0.size; omega
  obtain ⟨b0, b1, b2, b3, b4, b5, b6, b7, b8, b9, b10, b11, b12⟩ := hbx.cells
  clear h hb0 hW0 hbx hO fC fD fR fS fA fB
  go_enter Try.func109, Try.ntmps109
  go_upto_region 1 with fail
  rw [← HW0.out]
  go_upto_region 3 with (first | (go_at_call 188; refine (axiomWord_any _ _).mono ?_; rintro e w' ⟨rfl, hw⟩; rw [hw]; clear hw) | (at_builtin; refine list_append_strAt rfl (.tmp 8) (.tmp 11) 22 9 rfl base 5 i0 Try.underlying22 Try.underlying9 hi0 hz0 hz1 hz2 bv xs.length (xs.map (Value.int .u8)) rfl HO0.out (axWordB 3) rfl (by rw [axWordB_size]; unfold maxLen; omega) (by rw [axWordB_size]; omega) hs0 ?_; intro v1 w1 hown' hgrow hat; have HF1 : Hid (OwnB base w1 v1 (xs ++ axWord 3) ∧ Keep6 base W0 bv w1 v1) := ownB_axStr HO0.out hs0 hown' hgrow hat; clear hown' hgrow hat; have HBx1 : Hid (BoxA 147 w1 w.heap.size 3 c0 c1 c2 c3 d0 d1 d2 d3 (.slice ra rn rc) (.slice sa sn sc) (.slice aa an ac) (.slice ba bn bc)) := HBx0.out.keep6 (by decide) HF1.out.2; clear b0 b1 b2 b3 b4 b5 b6 b7 b8 b9 b10 b11 b12; obtain ⟨b0, b1, b2, b3, b4, b5, b6, b7, b8, b9, b10, b11, b12⟩ := HBx1.out.cells))
  obtain ⟨x1, hx1⟩ : ∃ x1, x1 = xs ++ axWord 3 := ⟨_, rfl⟩
  have HXx1 : Hid (x1 = xs ++ axWord 3) := hx1
  have hlx1 : x1.length ≤ xs.length + 4 := by rw [hx1, List.length_append]; omega
  have HK1 : Hid (Keep5 base w w1) := HK0.out.trans HF1.out.2.k5
  have hs1 : base ≤ w1.heap.size := Nat.le_trans hbase HK1.out.1.size
  obtain ⟨I0, hI0⟩ : ∃ I0, I0 = w1.iter ⟨#[82, 83]⟩ 0 := ⟨_, rfl⟩
  have HI0 : Hid (I0 = w1.iter ⟨#[82, 83]⟩ 0) := hI0
  have hbI : Below w1.heap.size w1 I0 := by rw [hI0]; exact (Below.refl _ _).alloc (Nat.le_refl _) _
  have HItI0 : Hid (I0.heap[w1.heap.size]? = some (.stringIter ⟨#[82, 83]⟩ 0)) := by unfold Hid; rw [hI0]; exact World.iter_heap w1 _ _
  have HOI0 : Hid (OwnB base I0 v1 x1) := by unfold Hid; rw [hx1]; exact HF1.out.1.below hbI (Nat.le_refl _)
  have HKI0 : Hid (Keep5 base w I0) := HK1.out.trans (Keep5.of_below hbI hs1)
  have HBI0 : Hid (BoxA 147 I0 w.heap.size 3 c0 c1 c2 c3 d0 d1 d2 d3 (.slice ra rn rc) (.slice sa sn sc) (.slice aa an ac) (.slice ba bn bc)) := HBx1.out.below hbI HBx1.out.lt
  have hsI0 : base ≤ I0.heap.size := Nat.le_trans hs1 hbI.size
  clear hI0 hbI hx1 HF1 HBx1 HK1 HK0 HO0 HBx0
  go_wp2_with (first | (go_at_call 179; refine (axiomFields_any _ _).mono ?_; rintro e w' ⟨rfl, hw⟩; rw [hw, show fieldsS 3 = ⟨#[82, 83]⟩ from rfl]; clear hw))
  rw [← HI0.out]
  refine wp_loop_rounds 3 ?_
  rw [rounds_succ]
  obtain ⟨N0, hN⟩ : ∃ W, W = I0.iterAt w1.heap.size ⟨#[82, 83]⟩ 1 := ⟨_, rfl⟩
  have hnx : ∀ ty, (Instr.next (.pointer (some ⟨w1.heap.size, 0, none⟩)) true ty).run Try.prog I0 = .ok (.tuple #[.bool true, .int .i64 0, .int .i32 82]) N0 := fun ty => by rw [hN]; exact Lib.run_next_ascii_at I0 w1.heap.size ⟨#[82, 83]⟩ 0 ty HItI0.out (by decide) (by decide)
  have HItN0 : Hid (N0.heap[w1.heap.size]? = some (.stringIter ⟨#[82, 83]⟩ 1)) := by unfold Hid; rw [hN]; exact Lib.iterAt_heap _ _ _ _ _ HItI0.out
  have hsz : N0.heap.size = I0.heap.size := by rw [hN]; exact Lib.iterAt_size _ _ _ _
  have hoth : ∀ (b : Nat) (o : Obj), I0.heap[b]? = some o → o.isCells = true → N0.heap[b]? = some o := fun b o hb hc => by
    rw [hN, Lib.iterAt_other _ _ _ _ _ (fun e => by subst e; rw [HItI0.out] at hb; cases hb; cases hc)]; exact hb
  have HON0 : Hid (OwnB base N0 v1 x1) := HOI0.out.cellsKept hoth
  have HBN0 : Hid (BoxA 147 N0 w.heap.size 3 c0 c1 c2 c3 d0 d1 d2 d3 (.slice ra rn rc) (.slice sa sn sc) (.slice aa an ac) (.slice ba bn bc)) := hoth _ _ HBI0.out rfl
  have HKN0 : Hid (Keep5 base w N0) := by unfold Hid; rw [hN]; exact HKI0.out.iterAt HItI0.out hs1 _
  have hsN0 : base ≤ N0.heap.size := by omega
  clear hN hoth; clear b0 b1 b2 b3 b4 b5 b6 b7 b8 b9 b10 b11 b12
  obtain ⟨b0, b1, b2, b3, b4, b5, b6, b7, b8, b9, b10, b11, b12⟩ := HBN0.out.cells
  go_upto_region 6 with fail
  clear hnx
  obtain ⟨D0, hD⟩ : ∃ V, V = N0.drew := ⟨_, rfl⟩
  have HDD0 : Hid (D0 = N0.drew) := hD
  have hbV : Below N0.heap.size N0 D0 := by rw [hD]; exact (Below.refl _ _).drew
  have HKD0 : Hid (Keep5 base w D0) := HKN0.out.trans (Keep5.of_below hbV hsN0)
  have HOD0 : Hid (OwnB base D0 v1 x1) := HON0.out.below hbV (Nat.le_refl _)
  have HBD0 : Hid (BoxA 147 D0 w.heap.size 3 c0 c1 c2 c3 d0 d1 d2 d3 (.slice ra rn rc) (.slice sa sn sc) (.slice aa an ac) (.slice ba bn bc)) := HBN0.out.below hbV HBN0.out.lt
  have hsD0 : base ≤ D0.heap.size := Nat.le_trans hsN0 hbV.size
  have HItD0 : Hid (D0.heap[w1.heap.size]? = some (.stringIter ⟨#[82, 83]⟩ 1)) := (hbV.block _ (Array.getElem?_eq_some_iff.1 HItN0.out).1).trans HItN0.out
  clear hD hbV b0 b1 b2 b3 b4 b5 b6 b7 b8 b9 b10 b11 b12
  refine wp_region_held_drew (S := fun W => BoxA 147 W w.heap.size 3 c0 c1 c2 c3 d0 d1 d2 d3 (.slice ra rn rc) (.slice sa sn sc) (.slice aa an ac) (.slice ba bn bc)) (by kernel_rfl) ?_ (fun hHeld => ?_)
  · exact HBN0.out
  rw [← HDD0.out] at hHeld ⊢
  refine wpAnyH_take (i := 0) (v := ?_) rfl (by kernel_rfl) (by kernel_rfl) (by kernel_rfl) (fun _ _ _ h => h) (Or.inl ⟨by rfl, ?_⟩) (by assumption) ?_
  rotate_left
  · intro w' hSw
    (try dsimp only at hSw)
    obtain ⟨t0, t1, t2, t3, t4, t5, t6, t7, t8, t9, t10, t11, t12⟩ := BoxA.cells hSw
    go_simp
    (try with_reducible rfl)
  (try simp only [Act.put]); (try simp only [List.setIfInBounds_toArray]); (try simp only [List.set_cons_succ]); (try simp only [List.set_cons_zero])
  refine wpAnyH_take (i := 1) (v := ?_) rfl (by kernel_rfl) (by kernel_rfl) (by kernel_rfl) (fun _ _ _ h => h) (Or.inl ⟨by rfl, ?_⟩) (by assumption) ?_
  rotate_left
  · intro w' hSw
    (try dsimp only at hSw)
    obtain ⟨t0, t1, t2, t3, t4, t5, t6, t7, t8, t9, t10, t11, t12⟩ := BoxA.cells hSw
    go_simp
    (try with_reducible rfl)
  (try simp only [Act.put]); (try simp only [List.setIfInBounds_toArray]); (try simp only [List.set_cons_succ]); (try simp only [List.set_cons_zero])
  refine wpAnyH_take (i := 4) (v := ?_) rfl (by kernel_rfl) (by kernel_rfl) (by kernel_rfl) (fun _ _ _ h => h) (Or.inl ⟨by rfl, ?_⟩) (by assumption) ?_
  rotate_left
  · intro w' hSw
    (try dsimp only at hSw)
    obtain ⟨t0, t1, t2, t3, t4, t5, t6, t7, t8, t9, t10, t11, t12⟩ := BoxA.cells hSw
    go_simp
    (try with_reducible rfl)
  (try simp only [Act.put]); (try simp only [List.setIfInBounds_toArray]); (try simp only [List.set_cons_succ]); (try simp only [List.set_cons_zero])
  refine wpAnyH_take (i := 5) (v := ?_) rfl (by kernel_rfl) (by kernel_rfl) (by kernel_rfl) (fun _ _ _ h => h) (Or.inl ⟨by rfl, ?_⟩) (by assumption) ?_
  rotate_left
  · intro w' hSw
    (try dsimp only at hSw)
    obtain ⟨t0, t1, t2, t3, t4, t5, t6, t7, t8, t9, t10, t11, t12⟩ := BoxA.cells hSw
    go_simp
    (try with_reducible rfl)
  (try simp only [Act.put]); (try simp only [List.setIfInBounds_toArray]); (try simp only [List.set_cons_succ]); (try simp only [List.set_cons_zero])
  refine wpAnyH_ready (rs := [2]) (by kernel_rfl) (by simp) ?_
  refine AllReadyH.cons rfl (fun K hK => ?_) AllReadyH.nil
  obtain ⟨G0, hWz⟩ : ∃ W, W = D0.alloc (.cells #[.int .u8 40] 5) := ⟨_, rfl⟩
  have HWG0 : Hid (G0 = D0.alloc (.cells #[.int .u8 40] 5)) := hWz
  have hbz : Below D0.heap.size D0 G0 := by rw [hWz]; exact (Below.refl _ _).alloc (Nat.le_refl _) _
  have HZG0 : Hid (G0.heap[D0.heap.size]? = some (.cells #[.int .u8 40] 5 (0, 0))) := by unfold Hid; rw [hWz]; exact World.alloc_heap_new D0 _
  have HOG0 : Hid (OwnB base G0 v1 x1) := HOD0.out.below hbz (Nat.le_refl _)
  have HKG0 : Hid (Keep5 base w G0) := HKD0.out.trans (Keep5.of_below hbz hsD0)
  have HBG0 : Hid (BoxA 147 G0 w.heap.size 3 c0 c1 c2 c3 d0 d1 d2 d3 (.slice ra rn rc) (.slice sa sn sc) (.slice aa an ac) (.slice ba bn bc)) := HBD0.out.below hbz HBD0.out.lt
  have hsG0 : base ≤ G0.heap.size := Nat.le_trans hsD0 hbz.size
  have HItG0 : Hid (G0.heap[w1.heap.size]? = some (.stringIter ⟨#[82, 83]⟩ 1)) := (hbz.block _ (Array.getElem?_eq_some_iff.1 HItD0.out).1).trans HItD0.out
  clear hWz hbz
  go_simp
  rw [← HWG0.out]
  refine hK.out _ _ ?_ (fun hHeld => ?_)
  · exact HBG0.out
  clear hK K; (try simp only [Act.put]); (try simp only [List.setIfInBounds_toArray]); (try simp only [List.set_cons_succ]); (try simp only [List.set_cons_zero])
  refine wpAnyH_ready (rs := [3]) (by kernel_rfl) (by simp) ?_
  refine AllReadyH.cons rfl (fun K hK => ?_) AllReadyH.nil
  refine step_appB rfl (.tmp 20) (.tmp 22) rfl base v1 x1 (by simp [Act.eval]) HOG0.out D0.heap.size (D0.heap.size + 1) _ 1 1 [40] (by simp [Act.eval]) (one_rd HZG0.out (by omega) (by omega)) (Nat.le_refl _) (by omega) hsG0 ?_
  intro y1 Y1 hO' hK'
  obtain ⟨z1, hz1⟩ : ∃ z, z = x1 ++ [40] := ⟨_, rfl⟩
  rw [← hz1] at hO'
  have HXz1 : Hid (z1 = x1 ++ [40]) := hz1
  have hlz1 : z1.length ≤ xs.length + 5 := by rw [hz1, List.length_append]; (try simp only [List.length_cons, List.length_nil]); omega
  have HOY1 : Hid (OwnB base Y1 y1 z1) := hO'
  have HKY1 : Hid (Keep5 base w Y1) := HKG0.out.trans hK'.k5
  have HBY1 : Hid (BoxA 147 Y1 w.heap.size 3 c0 c1 c2 c3 d0 d1 d2 d3 (.slice ra rn rc) (.slice sa sn sc) (.slice aa an ac) (.slice ba bn bc)) := HBG0.out.keep6 (by decide) hK'
  have hsY1 : base ≤ Y1.heap.size := Nat.le_trans hsG0 hK'.k5.1.size
  have HItY1 : Hid (Y1.heap[w1.heap.size]? = some (.stringIter ⟨#[82, 83]⟩ 1)) := (hK'.gr _ (Array.getElem?_eq_some_iff.1 HItG0.out).1 (HOG0.out.notIter HItG0.out)).trans HItG0.out
  clear hO' hK' hz1
  refine hK.out _ _ ?_ (fun hHeld => ?_)
  · exact HBY1.out
  clear hK K; (try simp only [Act.put]); (try simp only [List.setIfInBounds_toArray]); (try simp only [List.set_cons_succ]); (try simp only [List.set_cons_zero])
  refine wpAnyH_ready (rs := [6]) (by kernel_rfl) (by simp) ?_
  refine AllReadyH.cons rfl (fun K hK => ?_) AllReadyH.nil
  go_simp
  refine (addField_R 3 (HR.out.below HKY1.out.1 hhi) hhi hsY1 HOY1.out (by omega) (by omega)).mono ?_
  rintro e Y2 ⟨y2, rfl, hO', hK'⟩
  obtain ⟨z2, hz2⟩ : ∃ z, z = z1 ++ x.r := ⟨_, rfl⟩
  rw [← hz2] at hO'
  have HXz2 : Hid (z2 = z1 ++ x.r) := hz2
  have hlz2 : z2.length ≤ xs.length + 11 := by rw [hz2, List.length_append]; (try simp only [List.length_cons, List.length_nil]); omega
  have HOY2 : Hid (OwnB base Y2 y2 z2) := hO'
  have HKY2 : Hid (Keep5 base w Y2) := HKY1.out.trans hK'.k5
  have HBY2 : Hid (BoxA 147 Y2 w.heap.size 3 c0 c1 c2 c3 d0 d1 d2 d3 (.slice ra rn rc) (.slice sa sn sc) (.slice aa an ac) (.slice ba bn bc)) := HBY1.out.keep6 (by decide) hK'
  have hsY2 : base ≤ Y2.heap.size := Nat.le_trans hsY1 hK'.k5.1.size
  have HItY2 : Hid (Y2.heap[w1.heap.size]? = some (.stringIter ⟨#[82, 83]⟩ 1)) := (hK'.gr _ (Array.getElem?_eq_some_iff.1 HItY1.out).1 (HOY1.out.notIter HItY1.out)).trans HItY1.out
  clear hO' hK' hz2
  try dsimp only
  refine hK.out _ _ ?_ (fun hHeld => ?_)
  · exact HBY2.out
  clear hK K; (try simp only [Act.put]); (try simp only [List.setIfInBounds_toArray]); (try simp only [List.set_cons_succ]); (try simp only [List.set_cons_zero])
  refine wpAnyH_take (i := 7) (v := ?_) rfl (by kernel_rfl) (by kernel_rfl) (by kernel_rfl) (fun _ _ _ h => h) (Or.inl ⟨by rfl, ?_⟩) (by assumption) ?_
  rotate_left
  · intro w' hSw
    (try dsimp only at hSw)
    obtain ⟨t0, t1, t2, t3, t4, t5, t6, t7, t8, t9, t10, t11, t12⟩ := BoxA.cells hSw
    go_simp
    (try with_reducible rfl)
  (try simp only [Act.put]); (try simp only [List.setIfInBounds_toArray]); (try simp only [List.set_cons_succ]); (try simp only [List.set_cons_zero])
  refine wpAnyH_done (by kernel_rfl) ?_ _
  (try go_simp)
  obtain ⟨b0, b1, b2, b3, b4, b5, b6, b7, b8, b9, b10, b11, b12⟩ := HBY2.out.cells
  go_wp2_with fail
  rw [rounds_succ]
  obtain ⟨N1, hN⟩ : ∃ W, W = Y2.iterAt w1.heap.size ⟨#[82, 83]⟩ 2 := ⟨_, rfl⟩
  have hnx : ∀ ty, (Instr.next (.pointer (some ⟨w1.heap.size, 0, none⟩)) true ty).run Try.prog Y2 = .ok (.tuple #[.bool true, .int .i64 1, .int .i32 83]) N1 := fun ty => by rw [hN]; exact Lib.run_next_ascii_at Y2 w1.heap.size ⟨#[82, 83]⟩ 1 ty HItY2.out (by decide) (by decide)
  have HItN1 : Hid (N1.heap[w1.heap.size]? = some (.stringIter ⟨#[82, 83]⟩ 2)) := by unfold Hid; rw [hN]; exact Lib.iterAt_heap _ _ _ _ _ HItY2.out
  have hsz : N1.heap.size = Y2.heap.size := by rw [hN]; exact Lib.iterAt_size _ _ _ _
  have hoth : ∀ (b : Nat) (o : Obj), Y2.heap[b]? = some o → o.isCells = true → N1.heap[b]? = some o := fun b o hb hc => by
    rw [hN, Lib.iterAt_other _ _ _ _ _ (fun e => by subst e; rw [HItY2.out] at hb; cases hb; cases hc)]; exact hb
  have HON1 : Hid (OwnB base N1 y2 z2) := HOY2.out.cellsKept hoth
  have HBN1 : Hid (BoxA 147 N1 w.heap.size 3 c0 c1 c2 c3 d0 d1 d2 d3 (.slice ra rn rc) (.slice sa sn sc) (.slice aa an ac) (.slice ba bn bc)) := hoth _ _ HBY2.out rfl
  have HKN1 : Hid (Keep5 base w N1) := by unfold Hid; rw [hN]; exact HKY2.out.iterAt HItY2.out hs1 _
  have hsN1 : base ≤ N1.heap.size := by omega
  clear hN hoth; clear b0 b1 b2 b3 b4 b5 b6 b7 b8 b9 b10 b11 b12
  obtain ⟨b0, b1, b2, b3, b4, b5, b6, b7, b8, b9, b10, b11, b12⟩ := HBN1.out.cells
  go_upto_region 6 with fail
  clear hnx
  obtain ⟨D1, hD⟩ : ∃ V, V = N1.drew := ⟨_, rfl⟩
  have HDD1 : Hid (D1 = N1.drew) := hD
  have hbV : Below N1.heap.size N1 D1 := by rw [hD]; exact (Below.refl _ _).drew
  have HKD1 : Hid (Keep5 base w D1) := HKN1.out.trans (Keep5.of_below hbV hsN1)
  have HOD1 : Hid (OwnB base D1 y2 z2) := HON1.out.below hbV (Nat.le_refl _)
  have HBD1 : Hid (BoxA 147 D1 w.heap.size 3 c0 c1 c2 c3 d0 d1 d2 d3 (.slice ra rn rc) (.slice sa sn sc) (.slice aa an ac) (.slice ba bn bc)) := HBN1.out.below hbV HBN1.out.lt
  have hsD1 : base ≤ D1.heap.size := Nat.le_trans hsN1 hbV.size
  have HItD1 : Hid (D1.heap[w1.heap.size]? = some (.stringIter ⟨#[82, 83]⟩ 2)) := (hbV.block _ (Array.getElem?_eq_some_iff.1 HItN1.out).1).trans HItN1.out
  clear hD hbV b0 b1 b2 b3 b4 b5 b6 b7 b8 b9 b10 b11 b12
  refine wp_region_held_drew (S := fun W => BoxA 147 W w.heap.size 3 c0 c1 c2 c3 d0 d1 d2 d3 (.slice ra rn rc) (.slice sa sn sc) (.slice aa an ac) (.slice ba bn bc)) (by kernel_rfl) ?_ (fun hHeld => ?_)
  · exact HBN1.out
  rw [← HDD1.out] at hHeld ⊢
  refine wpAnyH_take (i := 0) (v := ?_) rfl (by kernel_rfl) (by kernel_rfl) (by kernel_rfl) (fun _ _ _ h => h) (Or.inl ⟨by rfl, ?_⟩) (by assumption) ?_
  rotate_left
  · intro w' hSw
    (try dsimp only at hSw)
    obtain ⟨t0, t1, t2, t3, t4, t5, t6, t7, t8, t9, t10, t11, t12⟩ := BoxA.cells hSw
    go_simp
    (try with_reducible rfl)
  (try simp only [Act.put]); (try simp only [List.setIfInBounds_toArray]); (try simp only [List.set_cons_succ]); (try simp only [List.set_cons_zero])
  refine wpAnyH_take (i := 1) (v := ?_) rfl (by kernel_rfl) (by kernel_rfl) (by kernel_rfl) (fun _ _ _ h => h) (Or.inl ⟨by rfl, ?_⟩) (by assumption) ?_
  rotate_left
  · intro w' hSw
    (try dsimp only at hSw)
    obtain ⟨t0, t1, t2, t3, t4, t5, t6, t7, t8, t9, t10, t11, t12⟩ := BoxA.cells hSw
    go_simp
    (try with_reducible rfl)
  (try simp only [Act.put]); (try simp only [List.setIfInBounds_toArray]); (try simp only [List.set_cons_succ]); (try simp only [List.set_cons_zero])
  refine wpAnyH_take (i := 4) (v := ?_) rfl (by kernel_rfl) (by kernel_rfl) (by kernel_rfl) (fun _ _ _ h => h) (Or.inl ⟨by rfl, ?_⟩) (by assumption) ?_
  rotate_left
  · intro w' hSw
    (try dsimp only at hSw)
    obtain ⟨t0, t1, t2, t3, t4, t5, t6, t7, t8, t9, t10, t11, t12⟩ := BoxA.cells hSw
    go_simp
    (try with_reducible rfl)
  (try simp only [Act.put]); (try simp only [List.setIfInBounds_toArray]); (try simp only [List.set_cons_succ]); (try simp only [List.set_cons_zero])
  refine wpAnyH_take (i := 5) (v := ?_) rfl (by kernel_rfl) (by kernel_rfl) (by kernel_rfl) (fun _ _ _ h => h) (Or.inl ⟨by rfl, ?_⟩) (by assumption) ?_
  rotate_left
  · intro w' hSw
    (try dsimp only at hSw)
    obtain ⟨t0, t1, t2, t3, t4, t5, t6, t7, t8, t9, t10, t11, t12⟩ := BoxA.cells hSw
    go_simp
    (try with_reducible rfl)
  (try simp only [Act.put]); (try simp only [List.setIfInBounds_toArray]); (try simp only [List.set_cons_succ]); (try simp only [List.set_cons_zero])
  refine wpAnyH_ready (rs := [2]) (by kernel_rfl) (by simp) ?_
  refine AllReadyH.cons rfl (fun K hK => ?_) AllReadyH.nil
  obtain ⟨G1, hWz⟩ : ∃ W, W = D1.alloc (.cells #[.int .u8 32] 5) := ⟨_, rfl⟩
  have HWG1 : Hid (G1 = D1.alloc (.cells #[.int .u8 32] 5)) := hWz
  have hbz : Below D1.heap.size D1 G1 := by rw [hWz]; exact (Below.refl _ _).alloc (Nat.le_refl _) _
  have HZG1 : Hid (G1.heap[D1.heap.size]? = some (.cells #[.int .u8 32] 5 (0, 0))) := by unfold Hid; rw [hWz]; exact World.alloc_heap_new D1 _
  have HOG1 : Hid (OwnB base G1 y2 z2) := HOD1.out.below hbz (Nat.le_refl _)
  have HKG1 : Hid (Keep5 base w G1) := HKD1.out.trans (Keep5.of_below hbz hsD1)
  have HBG1 : Hid (BoxA 147 G1 w.heap.size 3 c0 c1 c2 c3 d0 d1 d2 d3 (.slice ra rn rc) (.slice sa sn sc) (.slice aa an ac) (.slice ba bn bc)) := HBD1.out.below hbz HBD1.out.lt
  have hsG1 : base ≤ G1.heap.size := Nat.le_trans hsD1 hbz.size
  have HItG1 : Hid (G1.heap[w1.heap.size]? = some (.stringIter ⟨#[82, 83]⟩ 2)) := (hbz.block _ (Array.getElem?_eq_some_iff.1 HItD1.out).1).trans HItD1.out
  clear hWz hbz
  go_simp
  rw [← HWG1.out]
  refine hK.out _ _ ?_ (fun hHeld => ?_)
  · exact HBG1.out
  clear hK K; (try simp only [Act.put]); (try simp only [List.setIfInBounds_toArray]); (try simp only [List.set_cons_succ]); (try simp only [List.set_cons_zero])
  refine wpAnyH_ready (rs := [3]) (by kernel_rfl) (by simp) ?_
  refine AllReadyH.cons rfl (fun K hK => ?_) AllReadyH.nil
  refine step_appB rfl (.tmp 20) (.tmp 22) rfl base y2 z2 (by simp [Act.eval]) HOG1.out D1.heap.size (D1.heap.size + 1) _ 1 1 [32] (by simp [Act.eval]) (one_rd HZG1.out (by omega) (by omega)) (Nat.le_refl _) (by omega) hsG1 ?_
  intro y3 Y3 hO' hK'
  obtain ⟨z3, hz3⟩ : ∃ z, z = z2 ++ [32] := ⟨_, rfl⟩
  rw [← hz3] at hO'
  have HXz3 : Hid (z3 = z2 ++ [32]) := hz3
  have hlz3 : z3.length ≤ xs.length + 12 := by rw [hz3, List.length_append]; (try simp only [List.length_cons, List.length_nil]); omega
  have HOY3 : Hid (OwnB base Y3 y3 z3) := hO'
  have HKY3 : Hid (Keep5 base w Y3) := HKG1.out.trans hK'.k5
  have HBY3 : Hid (BoxA 147 Y3 w.heap.size 3 c0 c1 c2 c3 d0 d1 d2 d3 (.slice ra rn rc) (.slice sa sn sc) (.slice aa an ac) (.slice ba bn bc)) := HBG1.out.keep6 (by decide) hK'
  have hsY3 : base ≤ Y3.heap.size := Nat.le_trans hsG1 hK'.k5.1.size
  have HItY3 : Hid (Y3.heap[w1.heap.size]? = some (.stringIter ⟨#[82, 83]⟩ 2)) := (hK'.gr _ (Array.getElem?_eq_some_iff.1 HItG1.out).1 (HOG1.out.notIter HItG1.out)).trans HItG1.out
  clear hO' hK' hz3
  refine hK.out _ _ ?_ (fun hHeld => ?_)
  · exact HBY3.out
  clear hK K; (try simp only [Act.put]); (try simp only [List.setIfInBounds_toArray]); (try simp only [List.set_cons_succ]); (try simp only [List.set_cons_zero])
  refine wpAnyH_ready (rs := [6]) (by kernel_rfl) (by simp) ?_
  refine AllReadyH.cons rfl (fun K hK => ?_) AllReadyH.nil
  go_simp
  refine (addField_S 3 (HR.out.below HKY3.out.1 hhi) hhi hsY3 HOY3.out (by omega) (by omega)).mono ?_
  rintro e Y4 ⟨y4, rfl, hO', hK'⟩
  obtain ⟨z4, hz4⟩ : ∃ z, z = z3 ++ x.s := ⟨_, rfl⟩
  rw [← hz4] at hO'
  have HXz4 : Hid (z4 = z3 ++ x.s) := hz4
  have hlz4 : z4.length ≤ xs.length + 18 := by rw [hz4, List.length_append]; (try simp only [List.length_cons, List.length_nil]); omega
  have HOY4 : Hid (OwnB base Y4 y4 z4) := hO'
  have HKY4 : Hid (Keep5 base w Y4) := HKY3.out.trans hK'.k5
  have HBY4 : Hid (BoxA 147 Y4 w.heap.size 3 c0 c1 c2 c3 d0 d1 d2 d3 (.slice ra rn rc) (.slice sa sn sc) (.slice aa an ac) (.slice ba bn bc)) := HBY3.out.keep6 (by decide) hK'
  have hsY4 : base ≤ Y4.heap.size := Nat.le_trans hsY3 hK'.k5.1.size
  have HItY4 : Hid (Y4.heap[w1.heap.size]? = some (.stringIter ⟨#[82, 83]⟩ 2)) := (hK'.gr _ (Array.getElem?_eq_some_iff.1 HItY3.out).1 (HOY3.out.notIter HItY3.out)).trans HItY3.out
  clear hO' hK' hz4
  try dsimp only
  refine hK.out _ _ ?_ (fun hHeld => ?_)
  · exact HBY4.out
  clear hK K; (try simp only [Act.put]); (try simp only [List.setIfInBounds_toArray]); (try simp only [List.set_cons_succ]); (try simp only [List.set_cons_zero])
  refine wpAnyH_take (i := 7) (v := ?_) rfl (by kernel_rfl) (by kernel_rfl) (by kernel_rfl) (fun _ _ _ h => h) (Or.inl ⟨by rfl, ?_⟩) (by assumption) ?_
  rotate_left
  · intro w' hSw
    (try dsimp only at hSw)
    obtain ⟨t0, t1, t2, t3, t4, t5, t6, t7, t8, t9, t10, t11, t12⟩ := BoxA.cells hSw
    go_simp
    (try with_reducible rfl)
  (try simp only [Act.put]); (try simp only [List.setIfInBounds_toArray]); (try simp only [List.set_cons_succ]); (try simp only [List.set_cons_zero])
  refine wpAnyH_done (by kernel_rfl) ?_ _
  (try go_simp)
  obtain ⟨b0, b1, b2, b3, b4, b5, b6, b7, b8, b9, b10, b11, b12⟩ := HBY4.out.cells
  go_wp2_with fail
  rw [rounds_succ]
  have hnx : ∀ ty, (Instr.next (.pointer (some ⟨w1.heap.size, 0, none⟩)) true ty).run Try.prog Y4 = .ok (.tuple #[.bool false]) Y4 := fun ty => Lib.run_next_end_at Y4 w1.heap.size ⟨#[82, 83]⟩ 2 ty HItY4.out (by decide)
  have HBAl : Hid (Below Y4.heap.size Y4 (Y4.alloc (.cells #[.int .u8 41] 5))) := (Below.refl _ _).alloc (Nat.le_refl _) _
  have HOl : Hid (OwnB base (Y4.alloc (.cells #[.int .u8 41] 5)) y4 z4) := HOY4.out.below HBAl.out (Nat.le_refl _)
  have HSl : Hid (base ≤ (Y4.alloc (.cells #[.int .u8 41] 5)).heap.size) := Nat.le_trans hsY4 HBAl.out.size
  go_wp2_with (at_builtin; refine list_appB rfl (.tmp 27) (.tmp 28) rfl base y4 z4 rfl HOl.out Y4.heap.size (Y4.heap.size + 1) _ 1 1 [41] rfl (one_alloc Y4 41 (by omega) (by omega)) (Nat.le_refl _) (by omega) HSl.out ?_; intro v9 w9 hO9 hK9; have HO9 : Hid (OwnB base w9 v9 (z4 ++ [41])) := hO9; have HK9 : Hid (Keep5 base w w9) := (HKY4.out.trans (Keep5.of_below HBAl.out hsY4)).trans hK9.k5; clear hO9 hK9)
  go_ret
  refine ⟨_, rfl, ?_, HK9.out⟩
  have e9 := HO9.out
  rw [HXz4.out, HXz3.out, HXz2.out, HXz1.out, HXx1.out] at e9
  rw [HTx.out]
  exact e9

set_option maxRecDepth 100000 in
set_option maxHeartbeats 4000000 in
theorem addAx_4 {dp : Nat} {c0 c1 c2 c3 d0 d1 d2 d3 : Value} {ra : Option Addr} {rn rc : Nat} {sa : Option Addr} {sn sc : Nat} {aa : Option Addr} {an ac : Nat} {ba : Option Addr} {bn bc : Nat} {x : AX} {w : World} {lo hi base : Nat} {bv : Value} {xs : List Int} (h : RdA lo hi w dp c0 c1 c2 c3 d0 d1 d2 d3 ra rn rc sa sn sc aa an ac ba bn bc x) (hhi : hi ≤ base) (hbase : base ≤ w.heap.size) (hok : axOk x = true) (hk : x.kind = 4) (hO : OwnB base w bv xs) (hlen : xs.length ≤ 536870912) :
    Calls Try.prog 109 #[bv, .agg #[.int .i64 4, c0, c1, c2, c3, d0, d1, d2, d3, .slice ra rn rc, .slice sa sn sc, .slice aa an ac, .slice ba bn bc]] w fun e w' => ∃ bv', e = .returned bv' ∧ OwnB base w' bv' (xs ++ axSay x) ∧ Keep5 base w w' := by
  obtain ⟨_, fC, fD, fR, fS, fA, fB⟩ := axOk_facts hok
  have lA := fitL_want fA (by rw [hk]; rfl)
  have lC := textC_320 (fitC_ok fC)
  have HWC : Hid (wfC x.c = true) := wfC_of_ok (fitC_ok fC)
  have HR : Hid (RdA lo hi w dp c0 c1 c2 c3 d0 d1 d2 d3 ra rn rc sa sn sc aa an ac ba bn bc x) := h
  have HTx : Hid (xs ++ axSay x = xs ++ axWord 4 ++ [40] ++ x.a ++ [32] ++ textC x.c ++ [41]) := by unfold Hid axSay; rw [hk]; simp [fieldsN, fldsT, fldT]
  have hwl : (axWord 4).length ≤ 4 := axWord_len _
  obtain ⟨i0, hi0, hz0, hz1, hz2⟩ := info_parts Try.info5
  obtain ⟨W0, hW0⟩ : ∃ W0, W0 = w.alloc (.cells #[.int .i64 4, c0, c1, c2, c3, d0, d1, d2, d3, .slice ra rn rc, .slice sa sn sc, .slice aa an ac, .slice ba bn bc] 147) := ⟨_, rfl⟩
  have HW0 : Hid (W0 = w.alloc (.cells #[.int .i64 4, c0, c1, c2, c3, d0, d1, d2, d3, .slice ra rn rc, .slice sa sn sc, .slice aa an ac, .slice ba bn bc] 147)) := hW0
  have hb0 : Below w.heap.size w W0 := by rw [hW0]; exact (Below.refl _ _).alloc (Nat.le_refl _) _
  have HK0 : Hid (Keep5 base w W0) := Keep5.of_below hb0 hbase
  have HO0 : Hid (OwnB base W0 bv xs) := hO.below hb0 (Nat.le_refl _)
  have hbx : BoxA 147 W0 w.heap.size 4 c0 c1 c2 c3 d0 d1 d2 d3 (.slice ra rn rc) (.slice sa sn sc) (.slice aa an ac) (.slice ba bn bc) := by rw [hW0]; exact BoxA.new _ w _ _ _ _ _ _ _ _ _ _ _ _ _
  have HBx0 : Hid (BoxA 147 W0 w.heap.size 4 c0 c1 c2 c3 d0 d1 d2 d3 (.slice ra rn rc) (.slice sa sn sc) (.slice aa an ac) (.slice ba bn bc)) := hbx
  have hs0 : base ≤ W0.heap.size := by have := hb0.size; omega
  obtain ⟨b0, b1, b2, b3, b4, b5, b6, b7, b8, b9, b10, b11, b12⟩ := hbx.cells
  clear h hb0 hW0 hbx hO fC fD fR fS fA fB
  go_enter Try.func109, Try.ntmps109
  go_upto_region 1 with fail
  rw [← HW0.out]
  go_upto_region 3 with (first | (go_at_call 188; refine (axiomWord_any _ _).mono ?_; rintro e w' ⟨rfl, hw⟩; rw [hw]; clear hw) | (at_builtin; refine list_append_strAt rfl (.tmp 8) (.tmp 11) 22 9 rfl base 5 i0 Try.underlying22 Try.underlying9 hi0 hz0 hz1 hz2 bv xs.length (xs.map (Value.int .u8)) rfl HO0.out (axWordB 4) rfl (by rw [axWordB_size]; unfold maxLen; omega) (by rw [axWordB_size]; omega) hs0 ?_; intro v1 w1 hown' hgrow hat; have HF1 : Hid (OwnB base w1 v1 (xs ++ axWord 4) ∧ Keep6 base W0 bv w1 v1) := ownB_axStr HO0.out hs0 hown' hgrow hat; clear hown' hgrow hat; have HBx1 : Hid (BoxA 147 w1 w.heap.size 4 c0 c1 c2 c3 d0 d1 d2 d3 (.slice ra rn rc) (.slice sa sn sc) (.slice aa an ac) (.slice ba bn bc)) := HBx0.out.keep6 (by decide) HF1.out.2; clear b0 b1 b2 b3 b4 b5 b6 b7 b8 b9 b10 b11 b12; obtain ⟨b0, b1, b2, b3, b4, b5, b6, b7, b8, b9, b10, b11, b12⟩ := HBx1.out.cells))
  obtain ⟨x1, hx1⟩ : ∃ x1, x1 = xs ++ axWord 4 := ⟨_, rfl⟩
  have HXx1 : Hid (x1 = xs ++ axWord 4) := hx1
  have hlx1 : x1.length ≤ xs.length + 4 := by rw [hx1, List.length_append]; omega
  have HK1 : Hid (Keep5 base w w1) := HK0.out.trans HF1.out.2.k5
  have hs1 : base ≤ w1.heap.size := Nat.le_trans hbase HK1.out.1.size
  obtain ⟨I0, hI0⟩ : ∃ I0, I0 = w1.iter ⟨#[65, 67]⟩ 0 := ⟨_, rfl⟩
  have HI0 : Hid (I0 = w1.iter ⟨#[65, 67]⟩ 0) := hI0
  have hbI : Below w1.heap.size w1 I0 := by rw [hI0]; exact (Below.refl _ _).alloc (Nat.le_refl _) _
  have HItI0 : Hid (I0.heap[w1.heap.size]? = some (.stringIter ⟨#[65, 67]⟩ 0)) := by unfold Hid; rw [hI0]; exact World.iter_heap w1 _ _
  have HOI0 : Hid (OwnB base I0 v1 x1) := by unfold Hid; rw [hx1]; exact HF1.out.1.below hbI (Nat.le_refl _)
  have HKI0 : Hid (Keep5 base w I0) := HK1.out.trans (Keep5.of_below hbI hs1)
  have HBI0 : Hid (BoxA 147 I0 w.heap.size 4 c0 c1 c2 c3 d0 d1 d2 d3 (.slice ra rn rc) (.slice sa sn sc) (.slice aa an ac) (.slice ba bn bc)) := HBx1.out.below hbI HBx1.out.lt
  have hsI0 : base ≤ I0.heap.size := Nat.le_trans hs1 hbI.size
  clear hI0 hbI hx1 HF1 HBx1 HK1 HK0 HO0 HBx0
  go_wp2_with (first | (go_at_call 179; refine (axiomFields_any _ _).mono ?_; rintro e w' ⟨rfl, hw⟩; rw [hw, show fieldsS 4 = ⟨#[65, 67]⟩ from rfl]; clear hw))
  rw [← HI0.out]
  refine wp_loop_rounds 3 ?_
  rw [rounds_succ]
  obtain ⟨N0, hN⟩ : ∃ W, W = I0.iterAt w1.heap.size ⟨#[65, 67]⟩ 1 := ⟨_, rfl⟩
  have hnx : ∀ ty, (Instr.next (.pointer (some ⟨w1.heap.size, 0, none⟩)) true ty).run Try.prog I0 = .ok (.tuple #[.bool true, .int .i64 0, .int .i32 65]) N0 := fun ty => by rw [hN]; exact Lib.run_next_ascii_at I0 w1.heap.size ⟨#[65, 67]⟩ 0 ty HItI0.out (by decide) (by decide)
  have HItN0 : Hid (N0.heap[w1.heap.size]? = some (.stringIter ⟨#[65, 67]⟩ 1)) := by unfold Hid; rw [hN]; exact Lib.iterAt_heap _ _ _ _ _ HItI0.out
  have hsz : N0.heap.size = I0.heap.size := by rw [hN]; exact Lib.iterAt_size _ _ _ _
  have hoth : ∀ (b : Nat) (o : Obj), I0.heap[b]? = some o → o.isCells = true → N0.heap[b]? = some o := fun b o hb hc => by
    rw [hN, Lib.iterAt_other _ _ _ _ _ (fun e => by subst e; rw [HItI0.out] at hb; cases hb; cases hc)]; exact hb
  have HON0 : Hid (OwnB base N0 v1 x1) := HOI0.out.cellsKept hoth
  have HBN0 : Hid (BoxA 147 N0 w.heap.size 4 c0 c1 c2 c3 d0 d1 d2 d3 (.slice ra rn rc) (.slice sa sn sc) (.slice aa an ac) (.slice ba bn bc)) := hoth _ _ HBI0.out rfl
  have HKN0 : Hid (Keep5 base w N0) := by unfold Hid; rw [hN]; exact HKI0.out.iterAt HItI0.out hs1 _
  have hsN0 : base ≤ N0.heap.size := by omega
  clear hN hoth; clear b0 b1 b2 b3 b4 b5 b6 b7 b8 b9 b10 b11 b12
  obtain ⟨b0, b1, b2, b3, b4, b5, b6, b7, b8, b9, b10, b11, b12⟩ := HBN0.out.cells
  go_upto_region 6 with fail
  clear hnx
  obtain ⟨D0, hD⟩ : ∃ V, V = N0.drew := ⟨_, rfl⟩
  have HDD0 : Hid (D0 = N0.drew) := hD
  have hbV : Below N0.heap.size N0 D0 := by rw [hD]; exact (Below.refl _ _).drew
  have HKD0 : Hid (Keep5 base w D0) := HKN0.out.trans (Keep5.of_below hbV hsN0)
  have HOD0 : Hid (OwnB base D0 v1 x1) := HON0.out.below hbV (Nat.le_refl _)
  have HBD0 : Hid (BoxA 147 D0 w.heap.size 4 c0 c1 c2 c3 d0 d1 d2 d3 (.slice ra rn rc) (.slice sa sn sc) (.slice aa an ac) (.slice ba bn bc)) := HBN0.out.below hbV HBN0.out.lt
  have hsD0 : base ≤ D0.heap.size := Nat.le_trans hsN0 hbV.size
  have HItD0 : Hid (D0.heap[w1.heap.size]? = some (.stringIter ⟨#[65, 67]⟩ 1)) := (hbV.block _ (Array.getElem?_eq_some_iff.1 HItN0.out).1).trans HItN0.out
  clear hD hbV b0 b1 b2 b3 b4 b5 b6 b7 b8 b9 b10 b11 b12
  refine wp_region_held_drew (S := fun W => BoxA 147 W w.heap.size 4 c0 c1 c2 c3 d0 d1 d2 d3 (.slice ra rn rc) (.slice sa sn sc) (.slice aa an ac) (.slice ba bn bc)) (by kernel_rfl) ?_ (fun hHeld => ?_)
  · exact HBN0.out
  rw [← HDD0.out] at hHeld ⊢
  refine wpAnyH_take (i := 0) (v := ?_) rfl (by kernel_rfl) (by kernel_rfl) (by kernel_rfl) (fun _ _ _ h => h) (Or.inl ⟨by rfl, ?_⟩) (by assumption) ?_
  rotate_left
  · intro w' hSw
    (try dsimp only at hSw)
    obtain ⟨t0, t1, t2, t3, t4, t5, t6, t7, t8, t9, t10, t11, t12⟩ := BoxA.cells hSw
    go_simp
    (try with_reducible rfl)
  (try simp only [Act.put]); (try simp only [List.setIfInBounds_toArray]); (try simp only [List.set_cons_succ]); (try simp only [List.set_cons_zero])
  refine wpAnyH_take (i := 1) (v := ?_) rfl (by kernel_rfl) (by kernel_rfl) (by kernel_rfl) (fun _ _ _ h => h) (Or.inl ⟨by rfl, ?_⟩) (by assumption) ?_
  rotate_left
  · intro w' hSw
    (try dsimp only at hSw)
    obtain ⟨t0, t1, t2, t3, t4, t5, t6, t7, t8, t9, t10, t11, t12⟩ := BoxA.cells hSw
    go_simp
    (try with_reducible rfl)
  (try simp only [Act.put]); (try simp only [List.setIfInBounds_toArray]); (try simp only [List.set_cons_succ]); (try simp only [List.set_cons_zero])
  refine wpAnyH_take (i := 4) (v := ?_) rfl (by kernel_rfl) (by kernel_rfl) (by kernel_rfl) (fun _ _ _ h => h) (Or.inl ⟨by rfl, ?_⟩) (by assumption) ?_
  rotate_left
  · intro w' hSw
    (try dsimp only at hSw)
    obtain ⟨t0, t1, t2, t3, t4, t5, t6, t7, t8, t9, t10, t11, t12⟩ := BoxA.cells hSw
    go_simp
    (try with_reducible rfl)
  (try simp only [Act.put]); (try simp only [List.setIfInBounds_toArray]); (try simp only [List.set_cons_succ]); (try simp only [List.set_cons_zero])
  refine wpAnyH_take (i := 5) (v := ?_) rfl (by kernel_rfl) (by kernel_rfl) (by kernel_rfl) (fun _ _ _ h => h) (Or.inl ⟨by rfl, ?_⟩) (by assumption) ?_
  rotate_left
  · intro w' hSw
    (try dsimp only at hSw)
    obtain ⟨t0, t1, t2, t3, t4, t5, t6, t7, t8, t9, t10, t11, t12⟩ := BoxA.cells hSw
    go_simp
    (try with_reducible rfl)
  (try simp only [Act.put]); (try simp only [List.setIfInBounds_toArray]); (try simp only [List.set_cons_succ]); (try simp only [List.set_cons_zero])
  refine wpAnyH_ready (rs := [2]) (by kernel_rfl) (by simp) ?_
  refine AllReadyH.cons rfl (fun K hK => ?_) AllReadyH.nil
  obtain ⟨G0, hWz⟩ : ∃ W, W = D0.alloc (.cells #[.int .u8 40] 5) := ⟨_, rfl⟩
  have HWG0 : Hid (G0 = D0.alloc (.cells #[.int .u8 40] 5)) := hWz
  have hbz : Below D0.heap.size D0 G0 := by rw [hWz]; exact (Below.refl _ _).alloc (Nat.le_refl _) _
  have HZG0 : Hid (G0.heap[D0.heap.size]? = some (.cells #[.int .u8 40] 5 (0, 0))) := by unfold Hid; rw [hWz]; exact World.alloc_heap_new D0 _
  have HOG0 : Hid (OwnB base G0 v1 x1) := HOD0.out.below hbz (Nat.le_refl _)
  have HKG0 : Hid (Keep5 base w G0) := HKD0.out.trans (Keep5.of_below hbz hsD0)
  have HBG0 : Hid (BoxA 147 G0 w.heap.size 4 c0 c1 c2 c3 d0 d1 d2 d3 (.slice ra rn rc) (.slice sa sn sc) (.slice aa an ac) (.slice ba bn bc)) := HBD0.out.below hbz HBD0.out.lt
  have hsG0 : base ≤ G0.heap.size := Nat.le_trans hsD0 hbz.size
  have HItG0 : Hid (G0.heap[w1.heap.size]? = some (.stringIter ⟨#[65, 67]⟩ 1)) := (hbz.block _ (Array.getElem?_eq_some_iff.1 HItD0.out).1).trans HItD0.out
  clear hWz hbz
  go_simp
  rw [← HWG0.out]
  refine hK.out _ _ ?_ (fun hHeld => ?_)
  · exact HBG0.out
  clear hK K; (try simp only [Act.put]); (try simp only [List.setIfInBounds_toArray]); (try simp only [List.set_cons_succ]); (try simp only [List.set_cons_zero])
  refine wpAnyH_ready (rs := [3]) (by kernel_rfl) (by simp) ?_
  refine AllReadyH.cons rfl (fun K hK => ?_) AllReadyH.nil
  refine step_appB rfl (.tmp 20) (.tmp 22) rfl base v1 x1 (by simp [Act.eval]) HOG0.out D0.heap.size (D0.heap.size + 1) _ 1 1 [40] (by simp [Act.eval]) (one_rd HZG0.out (by omega) (by omega)) (Nat.le_refl _) (by omega) hsG0 ?_
  intro y1 Y1 hO' hK'
  obtain ⟨z1, hz1⟩ : ∃ z, z = x1 ++ [40] := ⟨_, rfl⟩
  rw [← hz1] at hO'
  have HXz1 : Hid (z1 = x1 ++ [40]) := hz1
  have hlz1 : z1.length ≤ xs.length + 5 := by rw [hz1, List.length_append]; (try simp only [List.length_cons, List.length_nil]); omega
  have HOY1 : Hid (OwnB base Y1 y1 z1) := hO'
  have HKY1 : Hid (Keep5 base w Y1) := HKG0.out.trans hK'.k5
  have HBY1 : Hid (BoxA 147 Y1 w.heap.size 4 c0 c1 c2 c3 d0 d1 d2 d3 (.slice ra rn rc) (.slice sa sn sc) (.slice aa an ac) (.slice ba bn bc)) := HBG0.out.keep6 (by decide) hK'
  have hsY1 : base ≤ Y1.heap.size := Nat.le_trans hsG0 hK'.k5.1.size
  have HItY1 : Hid (Y1.heap[w1.heap.size]? = some (.stringIter ⟨#[65, 67]⟩ 1)) := (hK'.gr _ (Array.getElem?_eq_some_iff.1 HItG0.out).1 (HOG0.out.notIter HItG0.out)).trans HItG0.out
  clear hO' hK' hz1
  refine hK.out _ _ ?_ (fun hHeld => ?_)
  · exact HBY1.out
  clear hK K; (try simp only [Act.put]); (try simp only [List.setIfInBounds_toArray]); (try simp only [List.set_cons_succ]); (try simp only [List.set_cons_zero])
  refine wpAnyH_ready (rs := [6]) (by kernel_rfl) (by simp) ?_
  refine AllReadyH.cons rfl (fun K hK => ?_) AllReadyH.nil
  go_simp
  refine (addField_A 4 (HR.out.below HKY1.out.1 hhi) hhi hsY1 HOY1.out (by omega) (by omega)).mono ?_
  rintro e Y2 ⟨y2, rfl, hO', hK'⟩
  obtain ⟨z2, hz2⟩ : ∃ z, z = z1 ++ x.a := ⟨_, rfl⟩
  rw [← hz2] at hO'
  have HXz2 : Hid (z2 = z1 ++ x.a) := hz2
  have hlz2 : z2.length ≤ xs.length + 11 := by rw [hz2, List.length_append]; (try simp only [List.length_cons, List.length_nil]); omega
  have HOY2 : Hid (OwnB base Y2 y2 z2) := hO'
  have HKY2 : Hid (Keep5 base w Y2) := HKY1.out.trans hK'.k5
  have HBY2 : Hid (BoxA 147 Y2 w.heap.size 4 c0 c1 c2 c3 d0 d1 d2 d3 (.slice ra rn rc) (.slice sa sn sc) (.slice aa an ac) (.slice ba bn bc)) := HBY1.out.keep6 (by decide) hK'
  have hsY2 : base ≤ Y2.heap.size := Nat.le_trans hsY1 hK'.k5.1.size
  have HItY2 : Hid (Y2.heap[w1.heap.size]? = some (.stringIter ⟨#[65, 67]⟩ 1)) := (hK'.gr _ (Array.getElem?_eq_some_iff.1 HItY1.out).1 (HOY1.out.notIter HItY1.out)).trans HItY1.out
  clear hO' hK' hz2
  try dsimp only
  refine hK.out _ _ ?_ (fun hHeld => ?_)
  · exact HBY2.out
  clear hK K; (try simp only [Act.put]); (try simp only [List.setIfInBounds_toArray]); (try simp only [List.set_cons_succ]); (try simp only [List.set_cons_zero])
  refine wpAnyH_take (i := 7) (v := ?_) rfl (by kernel_rfl) (by kernel_rfl) (by kernel_rfl) (fun _ _ _ h => h) (Or.inl ⟨by rfl, ?_⟩) (by assumption) ?_
  rotate_left
  · intro w' hSw
    (try dsimp only at hSw)
    obtain ⟨t0, t1, t2, t3, t4, t5, t6, t7, t8, t9, t10, t11, t12⟩ := BoxA.cells hSw
    go_simp
    (try with_reducible rfl)
  (try simp only [Act.put]); (try simp only [List.setIfInBounds_toArray]); (try simp only [List.set_cons_succ]); (try simp only [List.set_cons_zero])
  refine wpAnyH_done (by kernel_rfl) ?_ _
  (try go_simp)
  obtain ⟨b0, b1, b2, b3, b4, b5, b6, b7, b8, b9, b10, b11, b12⟩ := HBY2.out.cells
  go_wp2_with fail
  rw [rounds_succ]
  obtain ⟨N1, hN⟩ : ∃ W, W = Y2.iterAt w1.heap.size ⟨#[65, 67]⟩ 2 := ⟨_, rfl⟩
  have hnx : ∀ ty, (Instr.next (.pointer (some ⟨w1.heap.size, 0, none⟩)) true ty).run Try.prog Y2 = .ok (.tuple #[.bool true, .int .i64 1, .int .i32 67]) N1 := fun ty => by rw [hN]; exact Lib.run_next_ascii_at Y2 w1.heap.size ⟨#[65, 67]⟩ 1 ty HItY2.out (by decide) (by decide)
  have HItN1 : Hid (N1.heap[w1.heap.size]? = some (.stringIter ⟨#[65, 67]⟩ 2)) := by unfold Hid; rw [hN]; exact Lib.iterAt_heap _ _ _ _ _ HItY2.out
  have hsz : N1.heap.size = Y2.heap.size := by rw [hN]; exact Lib.iterAt_size _ _ _ _
  have hoth : ∀ (b : Nat) (o : Obj), Y2.heap[b]? = some o → o.isCells = true → N1.heap[b]? = some o := fun b o hb hc => by
    rw [hN, Lib.iterAt_other _ _ _ _ _ (fun e => by subst e; rw [HItY2.out] at hb; cases hb; cases hc)]; exact hb
  have HON1 : Hid (OwnB base N1 y2 z2) := HOY2.out.cellsKept hoth
  have HBN1 : Hid (BoxA 147 N1 w.heap.size 4 c0 c1 c2 c3 d0 d1 d2 d3 (.slice ra rn rc) (.slice sa sn sc) (.slice aa an ac) (.slice ba bn bc)) := hoth _ _ HBY2.out rfl
  have HKN1 : Hid (Keep5 base w N1) := by unfold Hid; rw [hN]; exact HKY2.out.iterAt HItY2.out hs1 _
  have hsN1 : base ≤ N1.heap.size := by omega
  clear hN hoth; clear b0 b1 b2 b3 b4 b5 b6 b7 b8 b9 b10 b11 b12
  obtain ⟨b0, b1, b2, b3, b4, b5, b6, b7, b8, b9, b10, b11, b12⟩ := HBN1.out.cells
  go_upto_region 6 with fail
  clear hnx
  obtain ⟨D1, hD⟩ : ∃ V, V = N1.drew := ⟨_, rfl⟩
  have HDD1 : Hid (D1 = N1.drew) := hD
  have hbV : Below N1.heap.size N1 D1 := by rw [hD]; exact (Below.refl _ _).drew
  have HKD1 : Hid (Keep5 base w D1) := HKN1.out.trans (Keep5.of_below hbV hsN1)
  have HOD1 : Hid (OwnB base D1 y2 z2) := HON1.out.below hbV (Nat.le_refl _)
  have HBD1 : Hid (BoxA 147 D1 w.heap.size 4 c0 c1 c2 c3 d0 d1 d2 d3 (.slice ra rn rc) (.slice sa sn sc) (.slice aa an ac) (.slice ba bn bc)) := HBN1.out.below hbV HBN1.out.lt
  have hsD1 : base ≤ D1.heap.size := Nat.le_trans hsN1 hbV.size
  have HItD1 : Hid (D1.heap[w1.heap.size]? = some (.stringIter ⟨#[65, 67]⟩ 2)) := (hbV.block _ (Array.getElem?_eq_some_iff.1 HItN1.out).1).trans HItN1.out
  clear hD hbV b0 b1 b2 b3 b4 b5 b6 b7 b8 b9 b10 b11 b12
  refine wp_region_held_drew (S := fun W => BoxA 147 W w.heap.size 4 c0 c1 c2 c3 d0 d1 d2 d3 (.slice ra rn rc) (.slice sa sn sc) (.slice aa an ac) (.slice ba bn bc)) (by kernel_rfl) ?_ (fun hHeld => ?_)
  · exact HBN1.out
  rw [← HDD1.out] at hHeld ⊢
  refine wpAnyH_take (i := 0) (v := ?_) rfl (by kernel_rfl) (by kernel_rfl) (by kernel_rfl) (fun _ _ _ h => h) (Or.inl ⟨by rfl, ?_⟩) (by assumption) ?_
  rotate_left
  · intro w' hSw
    (try dsimp only at hSw)
    obtain ⟨t0, t1, t2, t3, t4, t5, t6, t7, t8, t9, t10, t11, t12⟩ := BoxA.cells hSw
    go_simp
    (try with_reducible rfl)
  (try simp only [Act.put]); (try simp only [List.setIfInBounds_toArray]); (try simp only [List.set_cons_succ]); (try simp only [List.set_cons_zero])
  refine wpAnyH_take (i := 1) (v := ?_) rfl (by kernel_rfl) (by kernel_rfl) (by kernel_rfl) (fun _ _ _ h => h) (Or.inl ⟨by rfl, ?_⟩) (by assumption) ?_
  rotate_left
  · intro w' hSw
    (try dsimp only at hSw)
    obtain ⟨t0, t1, t2, t3, t4, t5, t6, t7, t8, t9, t10, t11, t12⟩ := BoxA.cells hSw
    go_simp
    (try with_reducible rfl)
  (try simp only [Act.put]); (try simp only [List.setIfInBounds_toArray]); (try simp only [List.set_cons_succ]); (try simp only [List.set_cons_zero])
  refine wpAnyH_take (i := 4) (v := ?_) rfl (by kernel_rfl) (by kernel_rfl) (by kernel_rfl) (fun _ _ _ h => h) (Or.inl ⟨by rfl, ?_⟩) (by assumption) ?_
  rotate_left
  · intro w' hSw
    (try dsimp only at hSw)
    obtain ⟨t0, t1, t2, t3, t4, t5, t6, t7, t8, t9, t10, t11, t12⟩ := BoxA.cells hSw
    go_simp
    (try with_reducible rfl)
  (try simp only [Act.put]); (try simp only [List.setIfInBounds_toArray]); (try simp only [List.set_cons_succ]); (try simp only [List.set_cons_zero])
  refine wpAnyH_take (i := 5) (v := ?_) rfl (by kernel_rfl) (by kernel_rfl) (by kernel_rfl) (fun _ _ _ h => h) (Or.inl ⟨by rfl, ?_⟩) (by assumption) ?_
  rotate_left
  · intro w' hSw
    (try dsimp only at hSw)
    obtain ⟨t0, t1, t2, t3, t4, t5, t6, t7, t8, t9, t10, t11, t12⟩ := BoxA.cells hSw
    go_simp
    (try with_reducible rfl)
  (try simp only [Act.put]); (try simp only [List.setIfInBounds_toArray]); (try simp only [List.set_cons_succ]); (try simp only [List.set_cons_zero])
  refine wpAnyH_ready (rs := [2]) (by kernel_rfl) (by simp) ?_
  refine AllReadyH.cons rfl (fun K hK => ?_) AllReadyH.nil
  obtain ⟨G1, hWz⟩ : ∃ W, W = D1.alloc (.cells #[.int .u8 32] 5) := ⟨_, rfl⟩
  have HWG1 : Hid (G1 = D1.alloc (.cells #[.int .u8 32] 5)) := hWz
  have hbz : Below D1.heap.size D1 G1 := by rw [hWz]; exact (Below.refl _ _).alloc (Nat.le_refl _) _
  have HZG1 : Hid (G1.heap[D1.heap.size]? = some (.cells #[.int .u8 32] 5 (0, 0))) := by unfold Hid; rw [hWz]; exact World.alloc_heap_new D1 _
  have HOG1 : Hid (OwnB base G1 y2 z2) := HOD1.out.below hbz (Nat.le_refl _)
  have HKG1 : Hid (Keep5 base w G1) := HKD1.out.trans (Keep5.of_below hbz hsD1)
  have HBG1 : Hid (BoxA 147 G1 w.heap.size 4 c0 c1 c2 c3 d0 d1 d2 d3 (.slice ra rn rc) (.slice sa sn sc) (.slice aa an ac) (.slice ba bn bc)) := HBD1.out.below hbz HBD1.out.lt
  have hsG1 : base ≤ G1.heap.size := Nat.le_trans hsD1 hbz.size
  have HItG1 : Hid (G1.heap[w1.heap.size]? = some (.stringIter ⟨#[65, 67]⟩ 2)) := (hbz.block _ (Array.getElem?_eq_some_iff.1 HItD1.out).1).trans HItD1.out
  clear hWz hbz
  go_simp
  rw [← HWG1.out]
  refine hK.out _ _ ?_ (fun hHeld => ?_)
  · exact HBG1.out
  clear hK K; (try simp only [Act.put]); (try simp only [List.setIfInBounds_toArray]); (try simp only [List.set_cons_succ]); (try simp only [List.set_cons_zero])
  refine wpAnyH_ready (rs := [3]) (by kernel_rfl) (by simp) ?_
  refine AllReadyH.cons rfl (fun K hK => ?_) AllReadyH.nil
  refine step_appB rfl (.tmp 20) (.tmp 22) rfl base y2 z2 (by simp [Act.eval]) HOG1.out D1.heap.size (D1.heap.size + 1) _ 1 1 [32] (by simp [Act.eval]) (one_rd HZG1.out (by omega) (by omega)) (Nat.le_refl _) (by omega) hsG1 ?_
  intro y3 Y3 hO' hK'
  obtain ⟨z3, hz3⟩ : ∃ z, z = z2 ++ [32] := ⟨_, rfl⟩
  rw [← hz3] at hO'
  have HXz3 : Hid (z3 = z2 ++ [32]) := hz3
  have hlz3 : z3.length ≤ xs.length + 12 := by rw [hz3, List.length_append]; (try simp only [List.length_cons, List.length_nil]); omega
  have HOY3 : Hid (OwnB base Y3 y3 z3) := hO'
  have HKY3 : Hid (Keep5 base w Y3) := HKG1.out.trans hK'.k5
  have HBY3 : Hid (BoxA 147 Y3 w.heap.size 4 c0 c1 c2 c3 d0 d1 d2 d3 (.slice ra rn rc) (.slice sa sn sc) (.slice aa an ac) (.slice ba bn bc)) := HBG1.out.keep6 (by decide) hK'
  have hsY3 : base ≤ Y3.heap.size := Nat.le_trans hsG1 hK'.k5.1.size
  have HItY3 : Hid (Y3.heap[w1.heap.size]? = some (.stringIter ⟨#[65, 67]⟩ 2)) := (hK'.gr _ (Array.getElem?_eq_some_iff.1 HItG1.out).1 (HOG1.out.notIter HItG1.out)).trans HItG1.out
  clear hO' hK' hz3
  refine hK.out _ _ ?_ (fun hHeld => ?_)
  · exact HBY3.out
  clear hK K; (try simp only [Act.put]); (try simp only [List.setIfInBounds_toArray]); (try simp only [List.set_cons_succ]); (try simp only [List.set_cons_zero])
  refine wpAnyH_ready (rs := [6]) (by kernel_rfl) (by simp) ?_
  refine AllReadyH.cons rfl (fun K hK => ?_) AllReadyH.nil
  go_simp
  refine (addField_C 4 (HR.out.below HKY3.out.1 hhi) hhi hsY3 HOY3.out HWC.out (by omega)).mono ?_
  rintro e Y4 ⟨y4, rfl, hO', hK'⟩
  obtain ⟨z4, hz4⟩ : ∃ z, z = z3 ++ textC x.c := ⟨_, rfl⟩
  rw [← hz4] at hO'
  have HXz4 : Hid (z4 = z3 ++ textC x.c) := hz4
  have hlz4 : z4.length ≤ xs.length + 332 := by rw [hz4, List.length_append]; (try simp only [List.length_cons, List.length_nil]); omega
  have HOY4 : Hid (OwnB base Y4 y4 z4) := hO'
  have HKY4 : Hid (Keep5 base w Y4) := HKY3.out.trans hK'.k5
  have HBY4 : Hid (BoxA 147 Y4 w.heap.size 4 c0 c1 c2 c3 d0 d1 d2 d3 (.slice ra rn rc) (.slice sa sn sc) (.slice aa an ac) (.slice ba bn bc)) := HBY3.out.keep6 (by decide) hK'
  have hsY4 : base ≤ Y4.heap.size := Nat.le_trans hsY3 hK'.k5.1.size
  have HItY4 : Hid (Y4.heap[w1.heap.size]? = some (.stringIter ⟨#[65, 67]⟩ 2)) := (hK'.gr _ (Array.getElem?_eq_some_iff.1 HItY3.out).1 (HOY3.out.notIter HItY3.out)).trans HItY3.out
  clear hO' hK' hz4
  try dsimp only
  refine hK.out _ _ ?_ (fun hHeld => ?_)
  · exact HBY4.out
  clear hK K; (try simp only [Act.put]); (try simp only [List.setIfInBounds_toArray]); (try simp only [List.set_cons_succ]); (try simp only [List.set_cons_zero])
  refine wpAnyH_take (i := 7) (v := ?_) rfl (by kernel_rfl) (by kernel_rfl) (by kernel_rfl) (fun _ _ _ h => h) (Or.inl ⟨by rfl, ?_⟩) (by assumption) ?_
  rotate_left
  · intro w' hSw
    (try dsimp only at hSw)
    obtain ⟨t0, t1, t2, t3, t4, t5, t6, t7, t8, t9, t10, t11, t12⟩ := BoxA.cells hSw
    go_simp
    (try with_reducible rfl)
  (try simp only [Act.put]); (try simp only [List.setIfInBounds_toArray]); (try simp only [List.set_cons_succ]); (try simp only [List.set_cons_zero])
  refine wpAnyH_done (by kernel_rfl) ?_ _
  (try go_simp)
  obtain ⟨b0, b1, b2, b3, b4, b5, b6, b7, b8, b9, b10, b11, b12⟩ := HBY4.out.cells
  go_wp2_with fail
  rw [rounds_succ]
  have hnx : ∀ ty, (Instr.next (.pointer (some ⟨w1.heap.size, 0, none⟩)) true ty).run Try.prog Y4 = .ok (.tuple #[.bool false]) Y4 := fun ty => Lib.run_next_end_at Y4 w1.heap.size ⟨#[65, 67]⟩ 2 ty HItY4.out (by decide)
  have HBAl : Hid (Below Y4.heap.size Y4 (Y4.alloc (.cells #[.int .u8 41] 5))) := (Below.refl _ _).alloc (Nat.le_refl _) _
  have HOl : Hid (OwnB base (Y4.alloc (.cells #[.int .u8 41] 5)) y4 z4) := HOY4.out.below HBAl.out (Nat.le_refl _)
  have HSl : Hid (base ≤ (Y4.alloc (.cells #[.int .u8 41] 5)).heap.size) := Nat.le_trans hsY4 HBAl.out.size
  go_wp2_with (at_builtin; refine list_appB rfl (.tmp 27) (.tmp 28) rfl base y4 z4 rfl HOl.out Y4.heap.size (Y4.heap.size + 1) _ 1 1 [41] rfl (one_alloc Y4 41 (by omega) (by omega)) (Nat.le_refl _) (by omega) HSl.out ?_; intro v9 w9 hO9 hK9; have HO9 : Hid (OwnB base w9 v9 (z4 ++ [41])) := hO9; have HK9 : Hid (Keep5 base w w9) := (HKY4.out.trans (Keep5.of_below HBAl.out hsY4)).trans hK9.k5; clear hO9 hK9)
  go_ret
  refine ⟨_, rfl, ?_, HK9.out⟩
  have e9 := HO9.out
  rw [HXz4.out, HXz3.out, HXz2.out, HXz1.out, HXx1.out] at e9
  rw [HTx.out]
  exact e9

set_option maxRecDepth 100000 in
set_option maxHeartbeats 4000000 in
theorem addAx_5 {dp : Nat} {c0 c1 c2 c3 d0 d1 d2 d3 : Value} {ra : Option Addr} {rn rc : Nat} {sa : Option Addr} {sn sc : Nat} {aa : Option Addr} {an ac : Nat} {ba : Option Addr} {bn bc : Nat} {x : AX} {w : World} {lo hi base : Nat} {bv : Value} {xs : List Int} (h : RdA lo hi w dp c0 c1 c2 c3 d0 d1 d2 d3 ra rn rc sa sn sc aa an ac ba bn bc x) (hhi : hi ≤ base) (hbase : base ≤ w.heap.size) (hok : axOk x = true) (hk : x.kind = 5) (hO : OwnB base w bv xs) (hlen : xs.length ≤ 536870912) :
    Calls Try.prog 109 #[bv, .agg #[.int .i64 5, c0, c1, c2, c3, d0, d1, d2, d3, .slice ra rn rc, .slice sa sn sc, .slice aa an ac, .slice ba bn bc]] w fun e w' => ∃ bv', e = .returned bv' ∧ OwnB base w' bv' (xs ++ axSay x) ∧ Keep5 base w w' := by
  obtain ⟨_, fC, fD, fR, fS, fA, fB⟩ := axOk_facts hok
  have lR := fitL_want fR (by rw [hk]; rfl)
  have lA := fitL_want fA (by rw [hk]; rfl)
  have lB := fitL_want fB (by rw [hk]; rfl)
  have HR : Hid (RdA lo hi w dp c0 c1 c2 c3 d0 d1 d2 d3 ra rn rc sa sn sc aa an ac ba bn bc x) := h
  have HTx : Hid (xs ++ axSay x = xs ++ axWord 5 ++ [40] ++ x.r ++ [32] ++ x.a ++ [32] ++ x.b ++ [41]) := by unfold Hid axSay; rw [hk]; simp [fieldsN, fldsT, fldT]
  have hwl : (axWord 5).length ≤ 4 := axWord_len _
  obtain ⟨i0, hi0, hz0, hz1, hz2⟩ := info_parts Try.info5
  obtain ⟨W0, hW0⟩ : ∃ W0, W0 = w.alloc (.cells #[.int .i64 5, c0, c1, c2, c3, d0, d1, d2, d3, .slice ra rn rc, .slice sa sn sc, .slice aa an ac, .slice ba bn bc] 147) := ⟨_, rfl⟩
  have HW0 : Hid (W0 = w.alloc (.cells #[.int .i64 5, c0, c1, c2, c3, d0, d1, d2, d3, .slice ra rn rc, .slice sa sn sc, .slice aa an ac, .slice ba bn bc] 147)) := hW0
  have hb0 : Below w.heap.size w W0 := by rw [hW0]; exact (Below.refl _ _).alloc (Nat.le_refl _) _
  have HK0 : Hid (Keep5 base w W0) := Keep5.of_below hb0 hbase
  have HO0 : Hid (OwnB base W0 bv xs) := hO.below hb0 (Nat.le_refl _)
  have hbx : BoxA 147 W0 w.heap.size 5 c0 c1 c2 c3 d0 d1 d2 d3 (.slice ra rn rc) (.slice sa sn sc) (.slice aa an ac) (.slice ba bn bc) := by rw [hW0]; exact BoxA.new _ w _ _ _ _ _ _ _ _ _ _ _ _ _
  have HBx0 : Hid (BoxA 147 W0 w.heap.size 5 c0 c1 c2 c3 d0 d1 d2 d3 (.slice ra rn rc) (.slice sa sn sc) (.slice aa an ac) (.slice ba bn bc)) := hbx
  have hs0 : base ≤ W0.heap.size := by have := hb0.size; omega
  obtain ⟨b0, b1, b2, b3, b4, b5, b6, b7, b8, b9, b10, b11, b12⟩ := hbx.cells
  clear h hb0 hW0 hbx hO fC fD fR fS fA fB
  go_enter Try.func109, Try.ntmps109
  go_upto_region 1 with fail
  rw [← HW0.out]
  go_upto_region 3 with (first | (go_at_call 188; refine (axiomWord_any _ _).mono ?_; rintro e w' ⟨rfl, hw⟩; rw [hw]; clear hw) | (at_builtin; refine list_append_strAt rfl (.tmp 8) (.tmp 11) 22 9 rfl base 5 i0 Try.underlying22 Try.underlying9 hi0 hz0 hz1 hz2 bv xs.length (xs.map (Value.int .u8)) rfl HO0.out (axWordB 5) rfl (by rw [axWordB_size]; unfold maxLen; omega) (by rw [axWordB_size]; omega) hs0 ?_; intro v1 w1 hown' hgrow hat; have HF1 : Hid (OwnB base w1 v1 (xs ++ axWord 5) ∧ Keep6 base W0 bv w1 v1) := ownB_axStr HO0.out hs0 hown' hgrow hat; clear hown' hgrow hat; have HBx1 : Hid (BoxA 147 w1 w.heap.size 5 c0 c1 c2 c3 d0 d1 d2 d3 (.slice ra rn rc) (.slice sa sn sc) (.slice aa an ac) (.slice ba bn bc)) := HBx0.out.keep6 (by decide) HF1.out.2; clear b0 b1 b2 b3 b4 b5 b6 b7 b8 b9 b10 b11 b12; obtain ⟨b0, b1, b2, b3, b4, b5, b6, b7, b8, b9, b10, b11, b12⟩ := HBx1.out.cells))
  obtain ⟨x1, hx1⟩ : ∃ x1, x1 = xs ++ axWord 5 := ⟨_, rfl⟩
  have HXx1 : Hid (x1 = xs ++ axWord 5) := hx1
  have hlx1 : x1.length ≤ xs.length + 4 := by rw [hx1, List.length_append]; omega
  have HK1 : Hid (Keep5 base w w1) := HK0.out.trans HF1.out.2.k5
  have hs1 : base ≤ w1.heap.size := Nat.le_trans hbase HK1.out.1.size
  obtain ⟨I0, hI0⟩ : ∃ I0, I0 = w1.iter ⟨#[82, 65, 66]⟩ 0 := ⟨_, rfl⟩
  have HI0 : Hid (I0 = w1.iter ⟨#[82, 65, 66]⟩ 0) := hI0
  have hbI : Below w1.heap.size w1 I0 := by rw [hI0]; exact (Below.refl _ _).alloc (Nat.le_refl _) _
  have HItI0 : Hid (I0.heap[w1.heap.size]? = some (.stringIter ⟨#[82, 65, 66]⟩ 0)) := by unfold Hid; rw [hI0]; exact World.iter_heap w1 _ _
  have HOI0 : Hid (OwnB base I0 v1 x1) := by unfold Hid; rw [hx1]; exact HF1.out.1.below hbI (Nat.le_refl _)
  have HKI0 : Hid (Keep5 base w I0) := HK1.out.trans (Keep5.of_below hbI hs1)
  have HBI0 : Hid (BoxA 147 I0 w.heap.size 5 c0 c1 c2 c3 d0 d1 d2 d3 (.slice ra rn rc) (.slice sa sn sc) (.slice aa an ac) (.slice ba bn bc)) := HBx1.out.below hbI HBx1.out.lt
  have hsI0 : base ≤ I0.heap.size := Nat.le_trans hs1 hbI.size
  clear hI0 hbI hx1 HF1 HBx1 HK1 HK0 HO0 HBx0
  go_wp2_with (first | (go_at_call 179; refine (axiomFields_any _ _).mono ?_; rintro e w' ⟨rfl, hw⟩; rw [hw, show fieldsS 5 = ⟨#[82, 65, 66]⟩ from rfl]; clear hw))
  rw [← HI0.out]
  refine wp_loop_rounds 4 ?_
  rw [rounds_succ]
  obtain ⟨N0, hN⟩ : ∃ W, W = I0.iterAt w1.heap.size ⟨#[82, 65, 66]⟩ 1 := ⟨_, rfl⟩
  have hnx : ∀ ty, (Instr.next (.pointer (some ⟨w1.heap.size, 0, none⟩)) true ty).run Try.prog I0 = .ok (.tuple #[.bool true, .int .i64 0, .int .i32 82]) N0 := fun ty => by rw [hN]; exact Lib.run_next_ascii_at I0 w1.heap.size ⟨#[82, 65, 66]⟩ 0 ty HItI0.out (by decide) (by decide)
  have HItN0 : Hid (N0.heap[w1.heap.size]? = some (.stringIter ⟨#[82, 65, 66]⟩ 1)) := by unfold Hid; rw [hN]; exact Lib.iterAt_heap _ _ _ _ _ HItI0.out
  have hsz : N0.heap.size = I0.heap.size := by rw [hN]; exact Lib.iterAt_size _ _ _ _
  have hoth : ∀ (b : Nat) (o : Obj), I0.heap[b]? = some o → o.isCells = true → N0.heap[b]? = some o := fun b o hb hc => by
    rw [hN, Lib.iterAt_other _ _ _ _ _ (fun e => by subst e; rw [HItI0.out] at hb; cases hb; cases hc)]; exact hb
  have HON0 : Hid (OwnB base N0 v1 x1) := HOI0.out.cellsKept hoth
  have HBN0 : Hid (BoxA 147 N0 w.heap.size 5 c0 c1 c2 c3 d0 d1 d2 d3 (.slice ra rn rc) (.slice sa sn sc) (.slice aa an ac) (.slice ba bn bc)) := hoth _ _ HBI0.out rfl
  have HKN0 : Hid (Keep5 base w N0) := by unfold Hid; rw [hN]; exact HKI0.out.iterAt HItI0.out hs1 _
  have hsN0 : base ≤ N0.heap.size := by omega
  clear hN hoth; clear b0 b1 b2 b3 b4 b5 b6 b7 b8 b9 b10 b11 b12
  obtain ⟨b0, b1, b2, b3, b4, b5, b6, b7, b8, b9, b10, b11, b12⟩ := HBN0.out.cells
  go_upto_region 6 with fail
  clear hnx
  obtain ⟨D0, hD⟩ : ∃ V, V = N0.drew := ⟨_, rfl⟩
  have HDD0 : Hid (D0 = N0.drew) := hD
  have hbV : Below N0.heap.size N0 D0 := by rw [hD]; exact (Below.refl _ _).drew
  have HKD0 : Hid (Keep5 base w D0) := HKN0.out.trans (Keep5.of_below hbV hsN0)
  have HOD0 : Hid (OwnB base D0 v1 x1) := HON0.out.below hbV (Nat.le_refl _)
  have HBD0 : Hid (BoxA 147 D0 w.heap.size 5 c0 c1 c2 c3 d0 d1 d2 d3 (.slice ra rn rc) (.slice sa sn sc) (.slice aa an ac) (.slice ba bn bc)) := HBN0.out.below hbV HBN0.out.lt
  have hsD0 : base ≤ D0.heap.size := Nat.le_trans hsN0 hbV.size
  have HItD0 : Hid (D0.heap[w1.heap.size]? = some (.stringIter ⟨#[82, 65, 66]⟩ 1)) := (hbV.block _ (Array.getElem?_eq_some_iff.1 HItN0.out).1).trans HItN0.out
  clear hD hbV b0 b1 b2 b3 b4 b5 b6 b7 b8 b9 b10 b11 b12
  refine wp_region_held_drew (S := fun W => BoxA 147 W w.heap.size 5 c0 c1 c2 c3 d0 d1 d2 d3 (.slice ra rn rc) (.slice sa sn sc) (.slice aa an ac) (.slice ba bn bc)) (by kernel_rfl) ?_ (fun hHeld => ?_)
  · exact HBN0.out
  rw [← HDD0.out] at hHeld ⊢
  refine wpAnyH_take (i := 0) (v := ?_) rfl (by kernel_rfl) (by kernel_rfl) (by kernel_rfl) (fun _ _ _ h => h) (Or.inl ⟨by rfl, ?_⟩) (by assumption) ?_
  rotate_left
  · intro w' hSw
    (try dsimp only at hSw)
    obtain ⟨t0, t1, t2, t3, t4, t5, t6, t7, t8, t9, t10, t11, t12⟩ := BoxA.cells hSw
    go_simp
    (try with_reducible rfl)
  (try simp only [Act.put]); (try simp only [List.setIfInBounds_toArray]); (try simp only [List.set_cons_succ]); (try simp only [List.set_cons_zero])
  refine wpAnyH_take (i := 1) (v := ?_) rfl (by kernel_rfl) (by kernel_rfl) (by kernel_rfl) (fun _ _ _ h => h) (Or.inl ⟨by rfl, ?_⟩) (by assumption) ?_
  rotate_left
  · intro w' hSw
    (try dsimp only at hSw)
    obtain ⟨t0, t1, t2, t3, t4, t5, t6, t7, t8, t9, t10, t11, t12⟩ := BoxA.cells hSw
    go_simp
    (try with_reducible rfl)
  (try simp only [Act.put]); (try simp only [List.setIfInBounds_toArray]); (try simp only [List.set_cons_succ]); (try simp only [List.set_cons_zero])
  refine wpAnyH_take (i := 4) (v := ?_) rfl (by kernel_rfl) (by kernel_rfl) (by kernel_rfl) (fun _ _ _ h => h) (Or.inl ⟨by rfl, ?_⟩) (by assumption) ?_
  rotate_left
  · intro w' hSw
    (try dsimp only at hSw)
    obtain ⟨t0, t1, t2, t3, t4, t5, t6, t7, t8, t9, t10, t11, t12⟩ := BoxA.cells hSw
    go_simp
    (try with_reducible rfl)
  (try simp only [Act.put]); (try simp only [List.setIfInBounds_toArray]); (try simp only [List.set_cons_succ]); (try simp only [List.set_cons_zero])
  refine wpAnyH_take (i := 5) (v := ?_) rfl (by kernel_rfl) (by kernel_rfl) (by kernel_rfl) (fun _ _ _ h => h) (Or.inl ⟨by rfl, ?_⟩) (by assumption) ?_
  rotate_left
  · intro w' hSw
    (try dsimp only at hSw)
    obtain ⟨t0, t1, t2, t3, t4, t5, t6, t7, t8, t9, t10, t11, t12⟩ := BoxA.cells hSw
    go_simp
    (try with_reducible rfl)
  (try simp only [Act.put]); (try simp only [List.setIfInBounds_toArray]); (try simp only [List.set_cons_succ]); (try simp only [List.set_cons_zero])
  refine wpAnyH_ready (rs := [2]) (by kernel_rfl) (by simp) ?_
  refine AllReadyH.cons rfl (fun K hK => ?_) AllReadyH.nil
  obtain ⟨G0, hWz⟩ : ∃ W, W = D0.alloc (.cells #[.int .u8 40] 5) := ⟨_, rfl⟩
  have HWG0 : Hid (G0 = D0.alloc (.cells #[.int .u8 40] 5)) := hWz
  have hbz : Below D0.heap.size D0 G0 := by rw [hWz]; exact (Below.refl _ _).alloc (Nat.le_refl _) _
  have HZG0 : Hid (G0.heap[D0.heap.size]? = some (.cells #[.int .u8 40] 5 (0, 0))) := by unfold Hid; rw [hWz]; exact World.alloc_heap_new D0 _
  have HOG0 : Hid (OwnB base G0 v1 x1) := HOD0.out.below hbz (Nat.le_refl _)
  have HKG0 : Hid (Keep5 base w G0) := HKD0.out.trans (Keep5.of_below hbz hsD0)
  have HBG0 : Hid (BoxA 147 G0 w.heap.size 5 c0 c1 c2 c3 d0 d1 d2 d3 (.slice ra rn rc) (.slice sa sn sc) (.slice aa an ac) (.slice ba bn bc)) := HBD0.out.below hbz HBD0.out.lt
  have hsG0 : base ≤ G0.heap.size := Nat.le_trans hsD0 hbz.size
  have HItG0 : Hid (G0.heap[w1.heap.size]? = some (.stringIter ⟨#[82, 65, 66]⟩ 1)) := (hbz.block _ (Array.getElem?_eq_some_iff.1 HItD0.out).1).trans HItD0.out
  clear hWz hbz
  go_simp
  rw [← HWG0.out]
  refine hK.out _ _ ?_ (fun hHeld => ?_)
  · exact HBG0.out
  clear hK K; (try simp only [Act.put]); (try simp only [List.setIfInBounds_toArray]); (try simp only [List.set_cons_succ]); (try simp only [List.set_cons_zero])
  refine wpAnyH_ready (rs := [3]) (by kernel_rfl) (by simp) ?_
  refine AllReadyH.cons rfl (fun K hK => ?_) AllReadyH.nil
  refine step_appB rfl (.tmp 20) (.tmp 22) rfl base v1 x1 (by simp [Act.eval]) HOG0.out D0.heap.size (D0.heap.size + 1) _ 1 1 [40] (by simp [Act.eval]) (one_rd HZG0.out (by omega) (by omega)) (Nat.le_refl _) (by omega) hsG0 ?_
  intro y1 Y1 hO' hK'
  obtain ⟨z1, hz1⟩ : ∃ z, z = x1 ++ [40] := ⟨_, rfl⟩
  rw [← hz1] at hO'
  have HXz1 : Hid (z1 = x1 ++ [40]) := hz1
  have hlz1 : z1.length ≤ xs.length + 5 := by rw [hz1, List.length_append]; (try simp only [List.length_cons, List.length_nil]); omega
  have HOY1 : Hid (OwnB base Y1 y1 z1) := hO'
  have HKY1 : Hid (Keep5 base w Y1) := HKG0.out.trans hK'.k5
  have HBY1 : Hid (BoxA 147 Y1 w.heap.size 5 c0 c1 c2 c3 d0 d1 d2 d3 (.slice ra rn rc) (.slice sa sn sc) (.slice aa an ac) (.slice ba bn bc)) := HBG0.out.keep6 (by decide) hK'
  have hsY1 : base ≤ Y1.heap.size := Nat.le_trans hsG0 hK'.k5.1.size
  have HItY1 : Hid (Y1.heap[w1.heap.size]? = some (.stringIter ⟨#[82, 65, 66]⟩ 1)) := (hK'.gr _ (Array.getElem?_eq_some_iff.1 HItG0.out).1 (HOG0.out.notIter HItG0.out)).trans HItG0.out
  clear hO' hK' hz1
  refine hK.out _ _ ?_ (fun hHeld => ?_)
  · exact HBY1.out
  clear hK K; (try simp only [Act.put]); (try simp only [List.setIfInBounds_toArray]); (try simp only [List.set_cons_succ]); (try simp only [List.set_cons_zero])
  refine wpAnyH_ready (rs := [6]) (by kernel_rfl) (by simp) ?_
  refine AllReadyH.cons rfl (fun K hK => ?_) AllReadyH.nil
  go_simp
  refine (addField_R 5 (HR.out.below HKY1.out.1 hhi) hhi hsY1 HOY1.out (by omega) (by omega)).mono ?_
  rintro e Y2 ⟨y2, rfl, hO', hK'⟩
  obtain ⟨z2, hz2⟩ : ∃ z, z = z1 ++ x.r := ⟨_, rfl⟩
  rw [← hz2] at hO'
  have HXz2 : Hid (z2 = z1 ++ x.r) := hz2
  have hlz2 : z2.length ≤ xs.length + 11 := by rw [hz2, List.length_append]; (try simp only [List.length_cons, List.length_nil]); omega
  have HOY2 : Hid (OwnB base Y2 y2 z2) := hO'
  have HKY2 : Hid (Keep5 base w Y2) := HKY1.out.trans hK'.k5
  have HBY2 : Hid (BoxA 147 Y2 w.heap.size 5 c0 c1 c2 c3 d0 d1 d2 d3 (.slice ra rn rc) (.slice sa sn sc) (.slice aa an ac) (.slice ba bn bc)) := HBY1.out.keep6 (by decide) hK'
  have hsY2 : base ≤ Y2.heap.size := Nat.le_trans hsY1 hK'.k5.1.size
  have HItY2 : Hid (Y2.heap[w1.heap.size]? = some (.stringIter ⟨#[82, 65, 66]⟩ 1)) := (hK'.gr _ (Array.getElem?_eq_some_iff.1 HItY1.out).1 (HOY1.out.notIter HItY1.out)).trans HItY1.out
  clear hO' hK' hz2
  try dsimp only
  refine hK.out _ _ ?_ (fun hHeld => ?_)
  · exact HBY2.out
  clear hK K; (try simp only [Act.put]); (try simp only [List.setIfInBounds_toArray]); (try simp only [List.set_cons_succ]); (try simp only [List.set_cons_zero])
  refine wpAnyH_take (i := 7) (v := ?_) rfl (by kernel_rfl) (by kernel_rfl) (by kernel_rfl) (fun _ _ _ h => h) (Or.inl ⟨by rfl, ?_⟩) (by assumption) ?_
  rotate_left
  · intro w' hSw
    (try dsimp only at hSw)
    obtain ⟨t0, t1, t2, t3, t4, t5, t6, t7, t8, t9, t10, t11, t12⟩ := BoxA.cells hSw
    go_simp
    (try with_reducible rfl)
  (try simp only [Act.put]); (try simp only [List.setIfInBounds_toArray]); (try simp only [List.set_cons_succ]); (try simp only [List.set_cons_zero])
  refine wpAnyH_done (by kernel_rfl) ?_ _
  (try go_simp)
  obtain ⟨b0, b1, b2, b3, b4, b5, b6, b7, b8, b9, b10, b11, b12⟩ := HBY2.out.cells
  go_wp2_with fail
  rw [rounds_succ]
  obtain ⟨N1, hN⟩ : ∃ W, W = Y2.iterAt w1.heap.size ⟨#[82, 65, 66]⟩ 2 := ⟨_, rfl⟩
  have hnx : ∀ ty, (Instr.next (.pointer (some ⟨w1.heap.size, 0, none⟩)) true ty).run Try.prog Y2 = .ok (.tuple #[.bool true, .int .i64 1, .int .i32 65]) N1 := fun ty => by rw [hN]; exact Lib.run_next_ascii_at Y2 w1.heap.size ⟨#[82, 65, 66]⟩ 1 ty HItY2.out (by decide) (by decide)
  have HItN1 : Hid (N1.heap[w1.heap.size]? = some (.stringIter ⟨#[82, 65, 66]⟩ 2)) := by unfold Hid; rw [hN]; exact Lib.iterAt_heap _ _ _ _ _ HItY2.out
  have hsz : N1.heap.size = Y2.heap.size := by rw [hN]; exact Lib.iterAt_size _ _ _ _
  have hoth : ∀ (b : Nat) (o : Obj), Y2.heap[b]? = some o → o.isCells = true → N1.heap[b]? = some o := fun b o hb hc => by
    rw [hN, Lib.iterAt_other _ _ _ _ _ (fun e => by subst e; rw [HItY2.out] at hb; cases hb; cases hc)]; exact hb
  have HON1 : Hid (OwnB base N1 y2 z2) := HOY2.out.cellsKept hoth
  have HBN1 : Hid (BoxA 147 N1 w.heap.size 5 c0 c1 c2 c3 d0 d1 d2 d3 (.slice ra rn rc) (.slice sa sn sc) (.slice aa an ac) (.slice ba bn bc)) := hoth _ _ HBY2.out rfl
  have HKN1 : Hid (Keep5 base w N1) := by unfold Hid; rw [hN]; exact HKY2.out.iterAt HItY2.out hs1 _
  have hsN1 : base ≤ N1.heap.size := by omega
  clear hN hoth; clear b0 b1 b2 b3 b4 b5 b6 b7 b8 b9 b10 b11 b12
  obtain ⟨b0, b1, b2, b3, b4, b5, b6, b7, b8, b9, b10, b11, b12⟩ := HBN1.out.cells
  go_upto_region 6 with fail
  clear hnx
  obtain ⟨D1, hD⟩ : ∃ V, V = N1.drew := ⟨_, rfl⟩
  have HDD1 : Hid (D1 = N1.drew) := hD
  have hbV : Below N1.heap.size N1 D1 := by rw [hD]; exact (Below.refl _ _).drew
  have HKD1 : Hid (Keep5 base w D1) := HKN1.out.trans (Keep5.of_below hbV hsN1)
  have HOD1 : Hid (OwnB base D1 y2 z2) := HON1.out.below hbV (Nat.le_refl _)
  have HBD1 : Hid (BoxA 147 D1 w.heap.size 5 c0 c1 c2 c3 d0 d1 d2 d3 (.slice ra rn rc) (.slice sa sn sc) (.slice aa an ac) (.slice ba bn bc)) := HBN1.out.below hbV HBN1.out.lt
  have hsD1 : base ≤ D1.heap.size := Nat.le_trans hsN1 hbV.size
  have HItD1 : Hid (D1.heap[w1.heap.size]? = some (.stringIter ⟨#[82, 65, 66]⟩ 2)) := (hbV.block _ (Array.getElem?_eq_some_iff.1 HItN1.out).1).trans HItN1.out
  clear hD hbV b0 b1 b2 b3 b4 b5 b6 b7 b8 b9 b10 b11 b12
  refine wp_region_held_drew (S := fun W => BoxA 147 W w.heap.size 5 c0 c1 c2 c3 d0 d1 d2 d3 (.slice ra rn rc) (.slice sa sn sc) (.slice aa an ac) (.slice ba bn bc)) (by kernel_rfl) ?_ (fun hHeld => ?_)
  · exact HBN1.out
  rw [← HDD1.out] at hHeld ⊢
  refine wpAnyH_take (i := 0) (v := ?_) rfl (by kernel_rfl) (by kernel_rfl) (by kernel_rfl) (fun _ _ _ h => h) (Or.inl ⟨by rfl, ?_⟩) (by assumption) ?_
  rotate_left
  · intro w' hSw
    (try dsimp only at hSw)
    obtain ⟨t0, t1, t2, t3, t4, t5, t6, t7, t8, t9, t10, t11, t12⟩ := BoxA.cells hSw
    go_simp
    (try with_reducible rfl)
  (try simp only [Act.put]); (try simp only [List.setIfInBounds_toArray]); (try simp only [List.set_cons_succ]); (try simp only [List.set_cons_zero])
  refine wpAnyH_take (i := 1) (v := ?_) rfl (by kernel_rfl) (by kernel_rfl) (by kernel_rfl) (fun _ _ _ h => h) (Or.inl ⟨by rfl, ?_⟩) (by assumption) ?_
  rotate_left
  · intro w' hSw
    (try dsimp only at hSw)
    obtain ⟨t0, t1, t2, t3, t4, t5, t6, t7, t8, t9, t10, t11, t12⟩ := BoxA.cells hSw
    go_simp
    (try with_reducible rfl)
  (try simp only [Act.put]); (try simp only [List.setIfInBounds_toArray]); (try simp only [List.set_cons_succ]); (try simp only [List.set_cons_zero])
  refine wpAnyH_take (i := 4) (v := ?_) rfl (by kernel_rfl) (by kernel_rfl) (by kernel_rfl) (fun _ _ _ h => h) (Or.inl ⟨by rfl, ?_⟩) (by assumption) ?_
  rotate_left
  · intro w' hSw
    (try dsimp only at hSw)
    obtain ⟨t0, t1, t2, t3, t4, t5, t6, t7, t8, t9, t10, t11, t12⟩ := BoxA.cells hSw
    go_simp
    (try with_reducible rfl)
  (try simp only [Act.put]); (try simp only [List.setIfInBounds_toArray]); (try simp only [List.set_cons_succ]); (try simp only [List.set_cons_zero])
  refine wpAnyH_take (i := 5) (v := ?_) rfl (by kernel_rfl) (by kernel_rfl) (by kernel_rfl) (fun _ _ _ h => h) (Or.inl ⟨by rfl, ?_⟩) (by assumption) ?_
  rotate_left
  · intro w' hSw
    (try dsimp only at hSw)
    obtain ⟨t0, t1, t2, t3, t4, t5, t6, t7, t8, t9, t10, t11, t12⟩ := BoxA.cells hSw
    go_simp
    (try with_reducible rfl)
  (try simp only [Act.put]); (try simp only [List.setIfInBounds_toArray]); (try simp only [List.set_cons_succ]); (try simp only [List.set_cons_zero])
  refine wpAnyH_ready (rs := [2]) (by kernel_rfl) (by simp) ?_
  refine AllReadyH.cons rfl (fun K hK => ?_) AllReadyH.nil
  obtain ⟨G1, hWz⟩ : ∃ W, W = D1.alloc (.cells #[.int .u8 32] 5) := ⟨_, rfl⟩
  have HWG1 : Hid (G1 = D1.alloc (.cells #[.int .u8 32] 5)) := hWz
  have hbz : Below D1.heap.size D1 G1 := by rw [hWz]; exact (Below.refl _ _).alloc (Nat.le_refl _) _
  have HZG1 : Hid (G1.heap[D1.heap.size]? = some (.cells #[.int .u8 32] 5 (0, 0))) := by unfold Hid; rw [hWz]; exact World.alloc_heap_new D1 _
  have HOG1 : Hid (OwnB base G1 y2 z2) := HOD1.out.below hbz (Nat.le_refl _)
  have HKG1 : Hid (Keep5 base w G1) := HKD1.out.trans (Keep5.of_below hbz hsD1)
  have HBG1 : Hid (BoxA 147 G1 w.heap.size 5 c0 c1 c2 c3 d0 d1 d2 d3 (.slice ra rn rc) (.slice sa sn sc) (.slice aa an ac) (.slice ba bn bc)) := HBD1.out.below hbz HBD1.out.lt
  have hsG1 : base ≤ G1.heap.size := Nat.le_trans hsD1 hbz.size
  have HItG1 : Hid (G1.heap[w1.heap.size]? = some (.stringIter ⟨#[82, 65, 66]⟩ 2)) := (hbz.block _ (Array.getElem?_eq_some_iff.1 HItD1.out).1).trans HItD1.out
  clear hWz hbz
  go_simp
  rw [← HWG1.out]
  refine hK.out _ _ ?_ (fun hHeld => ?_)
  · exact HBG1.out
  clear hK K; (try simp only [Act.put]); (try simp only [List.setIfInBounds_toArray]); (try simp only [List.set_cons_succ]); (try simp only [List.set_cons_zero])
  refine wpAnyH_ready (rs := [3]) (by kernel_rfl) (by simp) ?_
  refine AllReadyH.cons rfl (fun K hK => ?_) AllReadyH.nil
  refine step_appB rfl (.tmp 20) (.tmp 22) rfl base y2 z2 (by simp [Act.eval]) HOG1.out D1.heap.size (D1.heap.size + 1) _ 1 1 [32] (by simp [Act.eval]) (one_rd HZG1.out (by omega) (by omega)) (Nat.le_refl _) (by omega) hsG1 ?_
  intro y3 Y3 hO' hK'
  obtain ⟨z3, hz3⟩ : ∃ z, z = z2 ++ [32] := ⟨_, rfl⟩
  rw [← hz3] at hO'
  have HXz3 : Hid (z3 = z2 ++ [32]) := hz3
  have hlz3 : z3.length ≤ xs.length + 12 := by rw [hz3, List.length_append]; (try simp only [List.length_cons, List.length_nil]); omega
  have HOY3 : Hid (OwnB base Y3 y3 z3) := hO'
  have HKY3 : Hid (Keep5 base w Y3) := HKG1.out.trans hK'.k5
  have HBY3 : Hid (BoxA 147 Y3 w.heap.size 5 c0 c1 c2 c3 d0 d1 d2 d3 (.slice ra rn rc) (.slice sa sn sc) (.slice aa an ac) (.slice ba bn bc)) := HBG1.out.keep6 (by decide) hK'
  have hsY3 : base ≤ Y3.heap.size := Nat.le_trans hsG1 hK'.k5.1.size
  have HItY3 : Hid (Y3.heap[w1.heap.size]? = some (.stringIter ⟨#[82, 65, 66]⟩ 2)) := (hK'.gr _ (Array.getElem?_eq_some_iff.1 HItG1.out).1 (HOG1.out.notIter HItG1.out)).trans HItG1.out
  clear hO' hK' hz3
  refine hK.out _ _ ?_ (fun hHeld => ?_)
  · exact HBY3.out
  clear hK K; (try simp only [Act.put]); (try simp only [List.setIfInBounds_toArray]); (try simp only [List.set_cons_succ]); (try simp only [List.set_cons_zero])
  refine wpAnyH_ready (rs := [6]) (by kernel_rfl) (by simp) ?_
  refine AllReadyH.cons rfl (fun K hK => ?_) AllReadyH.nil
  go_simp
  refine (addField_A 5 (HR.out.below HKY3.out.1 hhi) hhi hsY3 HOY3.out (by omega) (by omega)).mono ?_
  rintro e Y4 ⟨y4, rfl, hO', hK'⟩
  obtain ⟨z4, hz4⟩ : ∃ z, z = z3 ++ x.a := ⟨_, rfl⟩
  rw [← hz4] at hO'
  have HXz4 : Hid (z4 = z3 ++ x.a) := hz4
  have hlz4 : z4.length ≤ xs.length + 18 := by rw [hz4, List.length_append]; (try simp only [List.length_cons, List.length_nil]); omega
  have HOY4 : Hid (OwnB base Y4 y4 z4) := hO'
  have HKY4 : Hid (Keep5 base w Y4) := HKY3.out.trans hK'.k5
  have HBY4 : Hid (BoxA 147 Y4 w.heap.size 5 c0 c1 c2 c3 d0 d1 d2 d3 (.slice ra rn rc) (.slice sa sn sc) (.slice aa an ac) (.slice ba bn bc)) := HBY3.out.keep6 (by decide) hK'
  have hsY4 : base ≤ Y4.heap.size := Nat.le_trans hsY3 hK'.k5.1.size
  have HItY4 : Hid (Y4.heap[w1.heap.size]? = some (.stringIter ⟨#[82, 65, 66]⟩ 2)) := (hK'.gr _ (Array.getElem?_eq_some_iff.1 HItY3.out).1 (HOY3.out.notIter HItY3.out)).trans HItY3.out
  clear hO' hK' hz4
  try dsimp only
  refine hK.out _ _ ?_ (fun hHeld => ?_)
  · exact HBY4.out
  clear hK K; (try simp only [Act.put]); (try simp only [List.setIfInBounds_toArray]); (try simp only [List.set_cons_succ]); (try simp only [List.set_cons_zero])
  refine wpAnyH_take (i := 7) (v := ?_) rfl (by kernel_rfl) (by kernel_rfl) (by kernel_rfl) (fun _ _ _ h => h) (Or.inl ⟨by rfl, ?_⟩) (by assumption) ?_
  rotate_left
  · intro w' hSw
    (try dsimp only at hSw)
    obtain ⟨t0, t1, t2, t3, t4, t5, t6, t7, t8, t9, t10, t11, t12⟩ := BoxA.cells hSw
    go_simp
    (try with_reducible rfl)
  (try simp only [Act.put]); (try simp only [List.setIfInBounds_toArray]); (try simp only [List.set_cons_succ]); (try simp only [List.set_cons_zero])
  refine wpAnyH_done (by kernel_rfl) ?_ _
  (try go_simp)
  obtain ⟨b0, b1, b2, b3, b4, b5, b6, b7, b8, b9, b10, b11, b12⟩ := HBY4.out.cells
  go_wp2_with fail
  rw [rounds_succ]
  obtain ⟨N2, hN⟩ : ∃ W, W = Y4.iterAt w1.heap.size ⟨#[82, 65, 66]⟩ 3 := ⟨_, rfl⟩
  have hnx : ∀ ty, (Instr.next (.pointer (some ⟨w1.heap.size, 0, none⟩)) true ty).run Try.prog Y4 = .ok (.tuple #[.bool true, .int .i64 2, .int .i32 66]) N2 := fun ty => by rw [hN]; exact Lib.run_next_ascii_at Y4 w1.heap.size ⟨#[82, 65, 66]⟩ 2 ty HItY4.out (by decide) (by decide)
  have HItN2 : Hid (N2.heap[w1.heap.size]? = some (.stringIter ⟨#[82, 65, 66]⟩ 3)) := by unfold Hid; rw [hN]; exact Lib.iterAt_heap _ _ _ _ _ HItY4.out
  have hsz : N2.heap.size = Y4.heap.size := by rw [hN]; exact Lib.iterAt_size _ _ _ _
  have hoth : ∀ (b : Nat) (o : Obj), Y4.heap[b]? = some o → o.isCells = true → N2.heap[b]? = some o := fun b o hb hc => by
    rw [hN, Lib.iterAt_other _ _ _ _ _ (fun e => by subst e; rw [HItY4.out] at hb; cases hb; cases hc)]; exact hb
  have HON2 : Hid (OwnB base N2 y4 z4) := HOY4.out.cellsKept hoth
  have HBN2 : Hid (BoxA 147 N2 w.heap.size 5 c0 c1 c2 c3 d0 d1 d2 d3 (.slice ra rn rc) (.slice sa sn sc) (.slice aa an ac) (.slice ba bn bc)) := hoth _ _ HBY4.out rfl
  have HKN2 : Hid (Keep5 base w N2) := by unfold Hid; rw [hN]; exact HKY4.out.iterAt HItY4.out hs1 _
  have hsN2 : base ≤ N2.heap.size := by omega
  clear hN hoth; clear b0 b1 b2 b3 b4 b5 b6 b7 b8 b9 b10 b11 b12
  obtain ⟨b0, b1, b2, b3, b4, b5, b6, b7, b8, b9, b10, b11, b12⟩ := HBN2.out.cells
  go_upto_region 6 with fail
  clear hnx
  obtain ⟨D2, hD⟩ : ∃ V, V = N2.drew := ⟨_, rfl⟩
  have HDD2 : Hid (D2 = N2.drew) := hD
  have hbV : Below N2.heap.size N2 D2 := by rw [hD]; exact (Below.refl _ _).drew
  have HKD2 : Hid (Keep5 base w D2) := HKN2.out.trans (Keep5.of_below hbV hsN2)
  have HOD2 : Hid (OwnB base D2 y4 z4) := HON2.out.below hbV (Nat.le_refl _)
  have HBD2 : Hid (BoxA 147 D2 w.heap.size 5 c0 c1 c2 c3 d0 d1 d2 d3 (.slice ra rn rc) (.slice sa sn sc) (.slice aa an ac) (.slice ba bn bc)) := HBN2.out.below hbV HBN2.out.lt
  have hsD2 : base ≤ D2.heap.size := Nat.le_trans hsN2 hbV.size
  have HItD2 : Hid (D2.heap[w1.heap.size]? = some (.stringIter ⟨#[82, 65, 66]⟩ 3)) := (hbV.block _ (Array.getElem?_eq_some_iff.1 HItN2.out).1).trans HItN2.out
  clear hD hbV b0 b1 b2 b3 b4 b5 b6 b7 b8 b9 b10 b11 b12
  refine wp_region_held_drew (S := fun W => BoxA 147 W w.heap.size 5 c0 c1 c2 c3 d0 d1 d2 d3 (.slice ra rn rc) (.slice sa sn sc) (.slice aa an ac) (.slice ba bn bc)) (by kernel_rfl) ?_ (fun hHeld => ?_)
  · exact HBN2.out
  rw [← HDD2.out] at hHeld ⊢
  refine wpAnyH_take (i := 0) (v := ?_) rfl (by kernel_rfl) (by kernel_rfl) (by kernel_rfl) (fun _ _ _ h => h) (Or.inl ⟨by rfl, ?_⟩) (by assumption) ?_
  rotate_left
  · intro w' hSw
    (try dsimp only at hSw)
    obtain ⟨t0, t1, t2, t3, t4, t5, t6, t7, t8, t9, t10, t11, t12⟩ := BoxA.cells hSw
    go_simp
    (try with_reducible rfl)
  (try simp only [Act.put]); (try simp only [List.setIfInBounds_toArray]); (try simp only [List.set_cons_succ]); (try simp only [List.set_cons_zero])
  refine wpAnyH_take (i := 1) (v := ?_) rfl (by kernel_rfl) (by kernel_rfl) (by kernel_rfl) (fun _ _ _ h => h) (Or.inl ⟨by rfl, ?_⟩) (by assumption) ?_
  rotate_left
  · intro w' hSw
    (try dsimp only at hSw)
    obtain ⟨t0, t1, t2, t3, t4, t5, t6, t7, t8, t9, t10, t11, t12⟩ := BoxA.cells hSw
    go_simp
    (try with_reducible rfl)
  (try simp only [Act.put]); (try simp only [List.setIfInBounds_toArray]); (try simp only [List.set_cons_succ]); (try simp only [List.set_cons_zero])
  refine wpAnyH_take (i := 4) (v := ?_) rfl (by kernel_rfl) (by kernel_rfl) (by kernel_rfl) (fun _ _ _ h => h) (Or.inl ⟨by rfl, ?_⟩) (by assumption) ?_
  rotate_left
  · intro w' hSw
    (try dsimp only at hSw)
    obtain ⟨t0, t1, t2, t3, t4, t5, t6, t7, t8, t9, t10, t11, t12⟩ := BoxA.cells hSw
    go_simp
    (try with_reducible rfl)
  (try simp only [Act.put]); (try simp only [List.setIfInBounds_toArray]); (try simp only [List.set_cons_succ]); (try simp only [List.set_cons_zero])
  refine wpAnyH_take (i := 5) (v := ?_) rfl (by kernel_rfl) (by kernel_rfl) (by kernel_rfl) (fun _ _ _ h => h) (Or.inl ⟨by rfl, ?_⟩) (by assumption) ?_
  rotate_left
  · intro w' hSw
    (try dsimp only at hSw)
    obtain ⟨t0, t1, t2, t3, t4, t5, t6, t7, t8, t9, t10, t11, t12⟩ := BoxA.cells hSw
    go_simp
    (try with_reducible rfl)
  (try simp only [Act.put]); (try simp only [List.setIfInBounds_toArray]); (try simp only [List.set_cons_succ]); (try simp only [List.set_cons_zero])
  refine wpAnyH_ready (rs := [2]) (by kernel_rfl) (by simp) ?_
  refine AllReadyH.cons rfl (fun K hK => ?_) AllReadyH.nil
  obtain ⟨G2, hWz⟩ : ∃ W, W = D2.alloc (.cells #[.int .u8 32] 5) := ⟨_, rfl⟩
  have HWG2 : Hid (G2 = D2.alloc (.cells #[.int .u8 32] 5)) := hWz
  have hbz : Below D2.heap.size D2 G2 := by rw [hWz]; exact (Below.refl _ _).alloc (Nat.le_refl _) _
  have HZG2 : Hid (G2.heap[D2.heap.size]? = some (.cells #[.int .u8 32] 5 (0, 0))) := by unfold Hid; rw [hWz]; exact World.alloc_heap_new D2 _
  have HOG2 : Hid (OwnB base G2 y4 z4) := HOD2.out.below hbz (Nat.le_refl _)
  have HKG2 : Hid (Keep5 base w G2) := HKD2.out.trans (Keep5.of_below hbz hsD2)
  have HBG2 : Hid (BoxA 147 G2 w.heap.size 5 c0 c1 c2 c3 d0 d1 d2 d3 (.slice ra rn rc) (.slice sa sn sc) (.slice aa an ac) (.slice ba bn bc)) := HBD2.out.below hbz HBD2.out.lt
  have hsG2 : base ≤ G2.heap.size := Nat.le_trans hsD2 hbz.size
  have HItG2 : Hid (G2.heap[w1.heap.size]? = some (.stringIter ⟨#[82, 65, 66]⟩ 3)) := (hbz.block _ (Array.getElem?_eq_some_iff.1 HItD2.out).1).trans HItD2.out
  clear hWz hbz
  go_simp
  rw [← HWG2.out]
  refine hK.out _ _ ?_ (fun hHeld => ?_)
  · exact HBG2.out
  clear hK K; (try simp only [Act.put]); (try simp only [List.setIfInBounds_toArray]); (try simp only [List.set_cons_succ]); (try simp only [List.set_cons_zero])
  refine wpAnyH_ready (rs := [3]) (by kernel_rfl) (by simp) ?_
  refine AllReadyH.cons rfl (fun K hK => ?_) AllReadyH.nil
  refine step_appB rfl (.tmp 20) (.tmp 22) rfl base y4 z4 (by simp [Act.eval]) HOG2.out D2.heap.size (D2.heap.size + 1) _ 1 1 [32] (by simp [Act.eval]) (one_rd HZG2.out (by omega) (by omega)) (Nat.le_refl _) (by omega) hsG2 ?_
  intro y5 Y5 hO' hK'
  obtain ⟨z5, hz5⟩ : ∃ z, z = z4 ++ [32] := ⟨_, rfl⟩
  rw [← hz5] at hO'
  have HXz5 : Hid (z5 = z4 ++ [32]) := hz5
  have hlz5 : z5.length ≤ xs.length + 19 := by rw [hz5, List.length_append]; (try simp only [List.length_cons, List.length_nil]); omega
  have HOY5 : Hid (OwnB base Y5 y5 z5) := hO'
  have HKY5 : Hid (Keep5 base w Y5) := HKG2.out.trans hK'.k5
  have HBY5 : Hid (BoxA 147 Y5 w.heap.size 5 c0 c1 c2 c3 d0 d1 d2 d3 (.slice ra rn rc) (.slice sa sn sc) (.slice aa an ac) (.slice ba bn bc)) := HBG2.out.keep6 (by decide) hK'
  have hsY5 : base ≤ Y5.heap.size := Nat.le_trans hsG2 hK'.k5.1.size
  have HItY5 : Hid (Y5.heap[w1.heap.size]? = some (.stringIter ⟨#[82, 65, 66]⟩ 3)) := (hK'.gr _ (Array.getElem?_eq_some_iff.1 HItG2.out).1 (HOG2.out.notIter HItG2.out)).trans HItG2.out
  clear hO' hK' hz5
  refine hK.out _ _ ?_ (fun hHeld => ?_)
  · exact HBY5.out
  clear hK K; (try simp only [Act.put]); (try simp only [List.setIfInBounds_toArray]); (try simp only [List.set_cons_succ]); (try simp only [List.set_cons_zero])
  refine wpAnyH_ready (rs := [6]) (by kernel_rfl) (by simp) ?_
  refine AllReadyH.cons rfl (fun K hK => ?_) AllReadyH.nil
  go_simp
  refine (addField_B 5 (HR.out.below HKY5.out.1 hhi) hhi hsY5 HOY5.out (by omega) (by omega)).mono ?_
  rintro e Y6 ⟨y6, rfl, hO', hK'⟩
  obtain ⟨z6, hz6⟩ : ∃ z, z = z5 ++ x.b := ⟨_, rfl⟩
  rw [← hz6] at hO'
  have HXz6 : Hid (z6 = z5 ++ x.b) := hz6
  have hlz6 : z6.length ≤ xs.length + 25 := by rw [hz6, List.length_append]; (try simp only [List.length_cons, List.length_nil]); omega
  have HOY6 : Hid (OwnB base Y6 y6 z6) := hO'
  have HKY6 : Hid (Keep5 base w Y6) := HKY5.out.trans hK'.k5
  have HBY6 : Hid (BoxA 147 Y6 w.heap.size 5 c0 c1 c2 c3 d0 d1 d2 d3 (.slice ra rn rc) (.slice sa sn sc) (.slice aa an ac) (.slice ba bn bc)) := HBY5.out.keep6 (by decide) hK'
  have hsY6 : base ≤ Y6.heap.size := Nat.le_trans hsY5 hK'.k5.1.size
  have HItY6 : Hid (Y6.heap[w1.heap.size]? = some (.stringIter ⟨#[82, 65, 66]⟩ 3)) := (hK'.gr _ (Array.getElem?_eq_some_iff.1 HItY5.out).1 (HOY5.out.notIter HItY5.out)).trans HItY5.out
  clear hO' hK' hz6
  try dsimp only
  refine hK.out _ _ ?_ (fun hHeld => ?_)
  · exact HBY6.out
  clear hK K; (try simp only [Act.put]); (try simp only [List.setIfInBounds_toArray]); (try simp only [List.set_cons_succ]); (try simp only [List.set_cons_zero])
  refine wpAnyH_take (i := 7) (v := ?_) rfl (by kernel_rfl) (by kernel_rfl) (by kernel_rfl) (fun _ _ _ h => h) (Or.inl ⟨by rfl, ?_⟩) (by assumption) ?_
  rotate_left
  · intro w' hSw
    (try dsimp only at hSw)
    obtain ⟨t0, t1, t2, t3, t4, t5, t6, t7, t8, t9, t10, t11, t12⟩ := BoxA.cells hSw
    go_simp
    (try with_reducible rfl)
  (try simp only [Act.put]); (try simp only [List.setIfInBounds_toArray]); (try simp only [List.set_cons_succ]); (try simp only [List.set_cons_zero])
  refine wpAnyH_done (by kernel_rfl) ?_ _
  (try go_simp)
  obtain ⟨b0, b1, b2, b3, b4, b5, b6, b7, b8, b9, b10, b11, b12⟩ := HBY6.out.cells
  go_wp2_with fail
  rw [rounds_succ]
  have hnx : ∀ ty, (Instr.next (.pointer (some ⟨w1.heap.size, 0, none⟩)) true ty).run Try.prog Y6 = .ok (.tuple #[.bool false]) Y6 := fun ty => Lib.run_next_end_at Y6 w1.heap.size ⟨#[82, 65, 66]⟩ 3 ty HItY6.out (by decide)
  have HBAl : Hid (Below Y6.heap.size Y6 (Y6.alloc (.cells #[.int .u8 41] 5))) := (Below.refl _ _).alloc (Nat.le_refl _) _
  have HOl : Hid (OwnB base (Y6.alloc (.cells #[.int .u8 41] 5)) y6 z6) := HOY6.out.below HBAl.out (Nat.le_refl _)
  have HSl : Hid (base ≤ (Y6.alloc (.cells #[.int .u8 41] 5)).heap.size) := Nat.le_trans hsY6 HBAl.out.size
  go_wp2_with (at_builtin; refine list_appB rfl (.tmp 27) (.tmp 28) rfl base y6 z6 rfl HOl.out Y6.heap.size (Y6.heap.size + 1) _ 1 1 [41] rfl (one_alloc Y6 41 (by omega) (by omega)) (Nat.le_refl _) (by omega) HSl.out ?_; intro v9 w9 hO9 hK9; have HO9 : Hid (OwnB base w9 v9 (z6 ++ [41])) := hO9; have HK9 : Hid (Keep5 base w w9) := (HKY6.out.trans (Keep5.of_below HBAl.out hsY6)).trans hK9.k5; clear hO9 hK9)
  go_ret
  refine ⟨_, rfl, ?_, HK9.out⟩
  have e9 := HO9.out
  rw [HXz6.out, HXz5.out, HXz4.out, HXz3.out, HXz2.out, HXz1.out, HXx1.out] at e9
  rw [HTx.out]
  exact e9

end Go.Proofs.Ytodpaihndpjbfaa
