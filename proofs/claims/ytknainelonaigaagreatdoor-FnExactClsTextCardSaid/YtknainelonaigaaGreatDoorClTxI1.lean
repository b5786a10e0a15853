/- A literal as text, as the program writes it: a contract. -/
import Derived.Test.YtknainelonaigaaGreatDoorClTxS1
import Derived.Test.YtknainelonaigaaGreatDoorNDig
import Derived.Deep.RegionHeld3
namespace Go.Proofs.YtknainelonaigaaGreatDoor
open Go.RowKit

def BoxL (W : World) (b pl at' : Nat) (no : Bool) : Prop := W.heap[b]? = some (.cells #[.int .i64 (pl : Nat), .int .i64 (at' : Nat), .bool no] 98 (0, 0))
theorem BoxL.keep5 {W W' : World} {base b pl at' : Nat} {no : Bool} (h : BoxL W b pl at' no) (hk : Keep5 base W W') : BoxL W' b pl at' no := hk.2 b _ _ _ (by decide) h
theorem BoxL.cells {W : World} {b pl at' : Nat} {no : Bool} (h : BoxL W b pl at' no) : W.cell? ⟨b, 0, none⟩ = some (.int .i64 (pl : Nat)) ∧ W.cell? ⟨b, 1, none⟩ = some (.int .i64 (at' : Nat)) ∧ W.cell? ⟨b, 2, none⟩ = some (.bool no) := by
  unfold BoxL at h
  refine ⟨?_, ?_, ?_⟩ <;> simp [World.cell?, h]
def markI (pl : Nat) : Int := markT.getD pl 0
theorem mark_at : ∀ {pl : Nat} (h : pl < 6), markI pl = ((((({ data := #[120, 121, 97, 98, 99, 100] } : ByteArray)[pl]'(by exact h)).toNat : Nat) : Int)) := by
  intro pl h
  match pl, h with
  | 0, _ => rfl
  | 1, _ => rfl
  | 2, _ => rfl
  | 3, _ => rfl
  | 4, _ => rfl
  | 5, _ => rfl
def blankS : ByteArray := { data := #[32] }
theorem blankS_cells : Lib.strCells blankS = [(32 : Int)].map (Value.int .u8) := rfl
theorem own_far {base : Nat} {w w' : World} {v v' : Value} {g : Nat} (h : Keep6 base w v w' v') (hv : v.ownBlock ≠ some g) (hg : g < w.heap.size) : v'.ownBlock ≠ some g := by
  intro e
  rcases h.at' with q | ⟨g', q, hg'⟩
  · rw [q] at e; exact hv e
  · rw [q] at e; cases e; omega

set_option maxRecDepth 100000 in
set_option maxHeartbeats 8000000 in
theorem addLiteral_pos {base : Nat} {w : World} {v : Value} {xs : List Int} (pl at' : Nat) (hpl : pl < 6) (hat : at' < 24) (hO : OwnB base w v xs) (hbw : base ≤ w.heap.size) (hl : xs.length ≤ 1000000) :
    Calls Tryz.prog 58 #[v, .agg #[(.int .i64 (pl : Nat)), (.int .i64 (at' : Nat)), .bool false]] w fun e w' => ∃ v', e = .returned v' ∧ OwnB base w' v' (xs ++ [(32 : Int)] ++ digT at' ++ [markI pl]) ∧ Keep6 base w v w' v' := by
  obtain ⟨mc, hmc⟩ : ∃ mc : Int, mc = ((markS[pl]'(by exact hpl)).toNat : Nat) := ⟨_, rfl⟩
  have hix : (((({ data := #[120, 121, 97, 98, 99, 100] } : ByteArray)[pl]'(by exact hpl)).toNat : Nat) : Int) = mc := hmc.symm
  have HM : Hid (markI pl = mc) := (mark_at hpl).trans hix
  obtain ⟨W0, hW0⟩ : ∃ W0, W0 = w.alloc (.cells #[(.int .i64 (pl : Nat)), (.int .i64 (at' : Nat)), .bool false] 98) := ⟨_, rfl⟩
  have HW0 : Hid (W0 = w.alloc (.cells #[(.int .i64 (pl : Nat)), (.int .i64 (at' : Nat)), .bool false] 98)) := hW0
  have hk0 : Keep5 base w W0 := by rw [hW0]; exact Keep5.of_below ((Below.refl _ _).alloc (Nat.le_refl _) _) hbw
  have HK0 : Hid (Keep6 base w v W0 v) := by rw [Hid, hW0]; exact Keep6.of_below ((Below.refl _ _).alloc (Nat.le_refl _) _) hbw
  have HKc6 : Hid (Keep6 base W0 v (W0.alloc (.cells #[.int .u8 (mc)] 5)).drew v) := (Keep6.of_below ((Below.refl W0.heap.size W0).alloc (Nat.le_refl _) _) (Nat.le_trans hbw hk0.1.size)).drew
  have hbx : BoxL W0 w.heap.size pl at' false := by rw [hW0]; exact World.alloc_heap_new w _
  have HBx : Hid (∀ V, Keep5 base W0 V → V.cell? ⟨w.heap.size, 0, none⟩ = some (.int .i64 (pl : Nat)) ∧ V.cell? ⟨w.heap.size, 1, none⟩ = some (.int .i64 (at' : Nat))) := fun V hV => ⟨(BoxL.cells (BoxL.keep5 hbx hV)).1, (BoxL.cells (BoxL.keep5 hbx hV)).2.1⟩
  obtain ⟨z0, z1, z2⟩ := hbx.cells
  have hb : base ≤ W0.heap.size := Nat.le_trans hbw hk0.1.size
  have HO0 : Hid (OwnB base W0 v xs) := by unfold Hid; rw [hW0]; exact own_allocT hO _
  have HOd : Hid (OwnB base W0.drew v xs) := HO0.out
  have HOc : Hid (OwnB base (W0.alloc (.cells #[.int .u8 (mc)] 5)).drew v xs) := own_allocT HO0.out _
  have hbc : base ≤ (W0.alloc (.cells #[.int .u8 (mc)] 5)).drew.heap.size := by simp; omega
  have HKd : Hid (Keep5 base W0 W0.drew) := (Keep5.refl base W0).drew
  have HKc : Hid (Keep5 base W0 (W0.alloc (.cells #[.int .u8 (mc)] 5)).drew) := (Keep5.of_below ((Below.refl W0.heap.size W0).alloc (Nat.le_refl _) _) hb).drew
  have HSc : Hid ((W0.alloc (.cells #[.int .u8 (mc)] 5)).drew.heap[W0.heap.size]? = some (.cells #[.int .u8 (mc)] 5 (0, 0)) ∧ v.ownBlock ≠ some W0.heap.size ∧ W0.heap.size < (W0.alloc (.cells #[.int .u8 (mc)] 5)).drew.heap.size) := ⟨World.alloc_heap_new W0 _, fun e => by have := (ownsZ.lt HO0.out _ e).2; omega, by simp⟩
  have hat100 : at' < 100 := by omega
  have hpi : (pl : Int) < 6 := by omega
  have hdl := digT_len at'
  obtain ⟨X, hX⟩ : ∃ X, X = xs ++ [(32 : Int)] ++ digT at' := ⟨_, rfl⟩
  have HX : Hid (X = xs ++ [(32 : Int)] ++ digT at') := hX
  have HLn : Hid (X.length ≤ 1000010) := by have e : ([(32 : Int)]).length ≤ 2 := (by decide); rw [Hid, hX, List.length_append, List.length_append]; omega
  clear hX
  have HLs : Hid (xs.length + ([(32 : Int)]).length ≤ 536870912) := by have e : ([(32 : Int)]).length ≤ 2 := (by decide); rw [Hid]; omega
  have HOne : Hid (∀ u ∈ [Value.int .u8 (mc)], u.oneCell' = true) := by simp [Hid, Value.oneCell']
  obtain ⟨i0, hi0, hz0, hz1, hz2⟩ := info_parts Tryz.info5d
  clear hW0 hk0 hbx hO hmc
  go_enter Tryz.func58, Tryz.ntmps58
  go_wp2_with fail
  rw [← HW0.out]
  go_wp2_with fail
  go_upto_region 4 with fail
  first
  | go_region_held3 (fun V => V.cell? ⟨w.heap.size, 0, none⟩ = some (.int .i64 (pl : Nat)) ∧ V.cell? ⟨w.heap.size, 1, none⟩ = some (.int .i64 (at' : Nat))) (first | with_reducible exact HBx.out _ HKd.out | with_reducible exact HBx.out _ HKc.out | with_reducible exact HBx.out _ HT1.out.2.k5 | with_reducible exact HBx.out _ HT1a.out | with_reducible exact HBx.out _ HT2.out.2.k5) (first
    | (go_at_call 24; first | (refine (addNumber6 blankS [(32 : Int)] blankS_cells hat100 HOd.out hb HLs.out).mono ?_; rintro e w1 ⟨v1, rfl, h1, h2⟩; have HT1 : Hid (OwnB base w1 v1 X ∧ Keep6 base W0 v w1 v1) := ⟨by rw [HX.out]; exact h1, (Keep6.refl base W0 v).drew.trans h2⟩; have HT1a : Hid (Keep5 base W0 (w1.alloc (.cells #[.int .u8 (mc)] 5))) := HT1.out.2.k5.trans (Keep5.of_below ((Below.refl w1.heap.size w1).alloc (Nat.le_refl _) _) (Nat.le_trans hb HT1.out.2.k5.1.size));  clear h1 h2) | (refine (addNumber6 blankS [(32 : Int)] blankS_cells hat100 HOc.out hbc HLs.out).mono ?_; rintro e w1 ⟨v1, rfl, h1, h2⟩; have HT1 : Hid (OwnB base w1 v1 X ∧ Keep6 base W0 v w1 v1) := ⟨by rw [HX.out]; exact h1, HKc6.out.trans h2⟩; have HT1a : Hid (Keep5 base W0 (w1.alloc (.cells #[.int .u8 (mc)] 5))) := HT1.out.2.k5.trans (Keep5.of_below ((Below.refl w1.heap.size w1).alloc (Nat.le_refl _) _) (Nat.le_trans hb HT1.out.2.k5.1.size)); have HSp1 : Hid (w1.heap[W0.heap.size]? = some (.cells #[.int .u8 (mc)] 5 (0, 0)) ∧ v1.ownBlock ≠ some W0.heap.size) := ⟨(h2.gr _ HSc.out.2.2 HSc.out.2.1).trans HSc.out.1, own_far h2 HSc.out.2.1 HSc.out.2.2⟩; clear h1 h2))
    | (refine stepZ_lies w1 rfl (.tmp 12) (.tmp 16) 28 rfl base 5 i0 (.int .u8 0) 1 1 Tryz.underlying28 hi0 hz0 hz1 hz2 rfl (by decide) v1 X.length (X.map (Value.int .u8)) (by simp [Act.eval]) HT1.out.1 ⟨W0.heap.size, 0, none⟩ 1 1 [.int .u8 (mc)] (by simp [Act.eval]) rfl (World.news_of_block HSp1.out.1) HOne.out (by decide) (by have := HLn.out; unfold maxLen; omega) (by have := HLn.out; omega) (Nat.le_trans hb HT1.out.2.k5.1.size) _ rfl ?_; intro g2 cap2 w2 ho2 hg2 ha2 hl2; have HT2 : Hid (OwnB base w2 (.slice (some ⟨g2, 0, none⟩) (X.length + 1) cap2) (X ++ [mc]) ∧ Keep6 base W0 v w2 (.slice (some ⟨g2, 0, none⟩) (X.length + 1) cap2)) := ⟨(ownB_app (ys := [mc]) HT1.out.1 (Nat.le_trans hb HT1.out.2.k5.1.size) ho2 hg2).1, HT1.out.2.trans (ownB_app6 (ys := [mc]) HT1.out.1 (Nat.le_trans hb HT1.out.2.k5.1.size) ho2 hg2 (ha2.elim (fun q => .inl q.symm) (fun q => .inr (by rw [q]; rfl)))).2⟩; clear ho2 hg2 ha2 hl2)
    | (refine stepZ_lies (w1.alloc (.cells #[.int .u8 (mc)] 5)) rfl (.tmp 12) (.tmp 16) 28 rfl base 5 i0 (.int .u8 0) 1 1 Tryz.underlying28 hi0 hz0 hz1 hz2 rfl (by decide) v1 X.length (X.map (Value.int .u8)) (by simp [Act.eval]) (own_allocT HT1.out.1 _) ⟨w1.heap.size, 0, none⟩ 1 1 [.int .u8 (mc)] (by simp [Act.eval]) rfl (cell_one_new _ _ _) HOne.out (by decide) (by have := HLn.out; unfold maxLen; omega) (by have := HLn.out; omega) (by have := HT1.out.2.k5.1.size; simp; omega) _ rfl ?_; intro g2 cap2 w2 ho2 hg2 ha2 hl2; have HT2 : Hid (OwnB base w2 (.slice (some ⟨g2, 0, none⟩) (X.length + 1) cap2) (X ++ [mc]) ∧ Keep6 base W0 v w2 (.slice (some ⟨g2, 0, none⟩) (X.length + 1) cap2)) := ⟨(ownB_app (ys := [mc]) (own_allocT HT1.out.1 _) (by have := HT1.out.2.k5.1.size; simp; omega) ho2 hg2).1, (HT1.out.2.trans (Keep6.of_below ((Below.refl w1.heap.size w1).alloc (Nat.le_refl _) _) (Nat.le_trans hb HT1.out.2.k5.1.size))).trans (ownB_app6 (ys := [mc]) (own_allocT HT1.out.1 _) (by have := HT1.out.2.k5.1.size; simp; omega) ho2 hg2 (ha2.elim (fun q => .inl q.symm) (fun q => .inr (by rw [q]; rfl)))).2⟩; clear ho2 hg2 ha2 hl2))
  | fail
  all_goals
    go_wp2_with fail
    go_ret
    exact ⟨_, rfl, by rw [HM.out, ← HX.out]; exact HT2.out.1, HK0.out.trans HT2.out.2⟩

set_option maxRecDepth 100000 in
set_option maxHeartbeats 8000000 in
theorem addLiteral_neg {base : Nat} {w : World} {v : Value} {xs : List Int} (pl at' : Nat) (hpl : pl < 6) (hat : at' < 24) (hO : OwnB base w v xs) (hbw : base ≤ w.heap.size) (hl : xs.length ≤ 1000000) :
    Calls Tryz.prog 58 #[v, .agg #[(.int .i64 (pl : Nat)), (.int .i64 (at' : Nat)), .bool true]] w fun e w' => ∃ v', e = .returned v' ∧ OwnB base w' v' (xs ++ dashW ++ digT at' ++ [markI pl]) ∧ Keep6 base w v w' v' := by
  obtain ⟨mc, hmc⟩ : ∃ mc : Int, mc = ((markS[pl]'(by exact hpl)).toNat : Nat) := ⟨_, rfl⟩
  have hix : (((({ data := #[120, 121, 97, 98, 99, 100] } : ByteArray)[pl]'(by exact hpl)).toNat : Nat) : Int) = mc := hmc.symm
  have HM : Hid (markI pl = mc) := (mark_at hpl).trans hix
  obtain ⟨W0, hW0⟩ : ∃ W0, W0 = w.alloc (.cells #[(.int .i64 (pl : Nat)), (.int .i64 (at' : Nat)), .bool true] 98) := ⟨_, rfl⟩
  have HW0 : Hid (W0 = w.alloc (.cells #[(.int .i64 (pl : Nat)), (.int .i64 (at' : Nat)), .bool true] 98)) := hW0
  have hk0 : Keep5 base w W0 := by rw [hW0]; exact Keep5.of_below ((Below.refl _ _).alloc (Nat.le_refl _) _) hbw
  have HK0 : Hid (Keep6 base w v W0 v) := by rw [Hid, hW0]; exact Keep6.of_below ((Below.refl _ _).alloc (Nat.le_refl _) _) hbw
  have HKc6 : Hid (Keep6 base W0 v (W0.alloc (.cells #[.int .u8 (mc)] 5)).drew v) := (Keep6.of_below ((Below.refl W0.heap.size W0).alloc (Nat.le_refl _) _) (Nat.le_trans hbw hk0.1.size)).drew
  have hbx : BoxL W0 w.heap.size pl at' true := by rw [hW0]; exact World.alloc_heap_new w _
  have HBx : Hid (∀ V, Keep5 base W0 V → V.cell? ⟨w.heap.size, 0, none⟩ = some (.int .i64 (pl : Nat)) ∧ V.cell? ⟨w.heap.size, 1, none⟩ = some (.int .i64 (at' : Nat))) := fun V hV => ⟨(BoxL.cells (BoxL.keep5 hbx hV)).1, (BoxL.cells (BoxL.keep5 hbx hV)).2.1⟩
  obtain ⟨z0, z1, z2⟩ := hbx.cells
  have hb : base ≤ W0.heap.size := Nat.le_trans hbw hk0.1.size
  have HO0 : Hid (OwnB base W0 v xs) := by unfold Hid; rw [hW0]; exact own_allocT hO _
  have HOd : Hid (OwnB base W0.drew v xs) := HO0.out
  have HOc : Hid (OwnB base (W0.alloc (.cells #[.int .u8 (mc)] 5)).drew v xs) := own_allocT HO0.out _
  have hbc : base ≤ (W0.alloc (.cells #[.int .u8 (mc)] 5)).drew.heap.size := by simp; omega
  have HKd : Hid (Keep5 base W0 W0.drew) := (Keep5.refl base W0).drew
  have HKc : Hid (Keep5 base W0 (W0.alloc (.cells #[.int .u8 (mc)] 5)).drew) := (Keep5.of_below ((Below.refl W0.heap.size W0).alloc (Nat.le_refl _) _) hb).drew
  have HSc : Hid ((W0.alloc (.cells #[.int .u8 (mc)] 5)).drew.heap[W0.heap.size]? = some (.cells #[.int .u8 (mc)] 5 (0, 0)) ∧ v.ownBlock ≠ some W0.heap.size ∧ W0.heap.size < (W0.alloc (.cells #[.int .u8 (mc)] 5)).drew.heap.size) := ⟨World.alloc_heap_new W0 _, fun e => by have := (ownsZ.lt HO0.out _ e).2; omega, by simp⟩
  have hat100 : at' < 100 := by omega
  have hpi : (pl : Int) < 6 := by omega
  have hdl := digT_len at'
  obtain ⟨X, hX⟩ : ∃ X, X = xs ++ dashW ++ digT at' := ⟨_, rfl⟩
  have HX : Hid (X = xs ++ dashW ++ digT at') := hX
  have HLn : Hid (X.length ≤ 1000010) := by have e : (dashW).length ≤ 2 := (by decide); rw [Hid, hX, List.length_append, List.length_append]; omega
  clear hX
  have HLs : Hid (xs.length + (dashW).length ≤ 536870912) := by have e : (dashW).length ≤ 2 := (by decide); rw [Hid]; omega
  have HOne : Hid (∀ u ∈ [Value.int .u8 (mc)], u.oneCell' = true) := by simp [Hid, Value.oneCell']
  obtain ⟨i0, hi0, hz0, hz1, hz2⟩ := info_parts Tryz.info5d
  clear hW0 hk0 hbx hO hmc
  go_enter Tryz.func58, Tryz.ntmps58
  go_wp2_with fail
  rw [← HW0.out]
  go_wp2_with fail
  go_upto_region 4 with fail
  first
  | go_region_held3 (fun V => V.cell? ⟨w.heap.size, 0, none⟩ = some (.int .i64 (pl : Nat)) ∧ V.cell? ⟨w.heap.size, 1, none⟩ = some (.int .i64 (at' : Nat))) (first | with_reducible exact HBx.out _ HKd.out | with_reducible exact HBx.out _ HKc.out | with_reducible exact HBx.out _ HT1.out.2.k5 | with_reducible exact HBx.out _ HT1a.out | with_reducible exact HBx.out _ HT2.out.2.k5) (first
    | (go_at_call 24; first | (refine (addNumber6 dashS dashW dashS_cells hat100 HOd.out hb HLs.out).mono ?_; rintro e w1 ⟨v1, rfl, h1, h2⟩; have HT1 : Hid (OwnB base w1 v1 X ∧ Keep6 base W0 v w1 v1) := ⟨by rw [HX.out]; exact h1, (Keep6.refl base W0 v).drew.trans h2⟩; have HT1a : Hid (Keep5 base W0 (w1.alloc (.cells #[.int .u8 (mc)] 5))) := HT1.out.2.k5.trans (Keep5.of_below ((Below.refl w1.heap.size w1).alloc (Nat.le_refl _) _) (Nat.le_trans hb HT1.out.2.k5.1.size));  clear h1 h2) | (refine (addNumber6 dashS dashW dashS_cells hat100 HOc.out hbc HLs.out).mono ?_; rintro e w1 ⟨v1, rfl, h1, h2⟩; have HT1 : Hid (OwnB base w1 v1 X ∧ Keep6 base W0 v w1 v1) := ⟨by rw [HX.out]; exact h1, HKc6.out.trans h2⟩; have HT1a : Hid (Keep5 base W0 (w1.alloc (.cells #[.int .u8 (mc)] 5))) := HT1.out.2.k5.trans (Keep5.of_below ((Below.refl w1.heap.size w1).alloc (Nat.le_refl _) _) (Nat.le_trans hb HT1.out.2.k5.1.size)); have HSp1 : Hid (w1.heap[W0.heap.size]? = some (.cells #[.int .u8 (mc)] 5 (0, 0)) ∧ v1.ownBlock ≠ some W0.heap.size) := ⟨(h2.gr _ HSc.out.2.2 HSc.out.2.1).trans HSc.out.1, own_far h2 HSc.out.2.1 HSc.out.2.2⟩; clear h1 h2))
    | (refine stepZ_lies w1 rfl (.tmp 12) (.tmp 16) 28 rfl base 5 i0 (.int .u8 0) 1 1 Tryz.underlying28 hi0 hz0 hz1 hz2 rfl (by decide) v1 X.length (X.map (Value.int .u8)) (by simp [Act.eval]) HT1.out.1 ⟨W0.heap.size, 0, none⟩ 1 1 [.int .u8 (mc)] (by simp [Act.eval]) rfl (World.news_of_block HSp1.out.1) HOne.out (by decide) (by have := HLn.out; unfold maxLen; omega) (by have := HLn.out; omega) (Nat.le_trans hb HT1.out.2.k5.1.size) _ rfl ?_; intro g2 cap2 w2 ho2 hg2 ha2 hl2; have HT2 : Hid (OwnB base w2 (.slice (some ⟨g2, 0, none⟩) (X.length + 1) cap2) (X ++ [mc]) ∧ Keep6 base W0 v w2 (.slice (some ⟨g2, 0, none⟩) (X.length + 1) cap2)) := ⟨(ownB_app (ys := [mc]) HT1.out.1 (Nat.le_trans hb HT1.out.2.k5.1.size) ho2 hg2).1, HT1.out.2.trans (ownB_app6 (ys := [mc]) HT1.out.1 (Nat.le_trans hb HT1.out.2.k5.1.size) ho2 hg2 (ha2.elim (fun q => .inl q.symm) (fun q => .inr (by rw [q]; rfl)))).2⟩; clear ho2 hg2 ha2 hl2)
    | (refine stepZ_lies (w1.alloc (.cells #[.int .u8 (mc)] 5)) rfl (.tmp 12) (.tmp 16) 28 rfl base 5 i0 (.int .u8 0) 1 1 Tryz.underlying28 hi0 hz0 hz1 hz2 rfl (by decide) v1 X.length (X.map (Value.int .u8)) (by simp [Act.eval]) (own_allocT HT1.out.1 _) ⟨w1.heap.size, 0, none⟩ 1 1 [.int .u8 (mc)] (by simp [Act.eval]) rfl (cell_one_new _ _ _) HOne.out (by decide) (by have := HLn.out; unfold maxLen; omega) (by have := HLn.out; omega) (by have := HT1.out.2.k5.1.size; simp; omega) _ rfl ?_; intro g2 cap2 w2 ho2 hg2 ha2 hl2; have HT2 : Hid (OwnB base w2 (.slice (some ⟨g2, 0, none⟩) (X.length + 1) cap2) (X ++ [mc]) ∧ Keep6 base W0 v w2 (.slice (some ⟨g2, 0, none⟩) (X.length + 1) cap2)) := ⟨(ownB_app (ys := [mc]) (own_allocT HT1.out.1 _) (by have := HT1.out.2.k5.1.size; simp; omega) ho2 hg2).1, (HT1.out.2.trans (Keep6.of_below ((Below.refl w1.heap.size w1).alloc (Nat.le_refl _) _) (Nat.le_trans hb HT1.out.2.k5.1.size))).trans (ownB_app6 (ys := [mc]) (own_allocT HT1.out.1 _) (by have := HT1.out.2.k5.1.size; simp; omega) ho2 hg2 (ha2.elim (fun q => .inl q.symm) (fun q => .inr (by rw [q]; rfl)))).2⟩; clear ho2 hg2 ha2 hl2))
  | fail
  all_goals
    go_wp2_with fail
    go_ret
    exact ⟨_, rfl, by rw [HM.out, ← HX.out]; exact HT2.out.1, HK0.out.trans HT2.out.2⟩

end Go.Proofs.YtknainelonaigaaGreatDoor
