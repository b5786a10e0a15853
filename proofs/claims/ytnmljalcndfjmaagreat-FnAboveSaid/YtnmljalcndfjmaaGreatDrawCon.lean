/- A concept that is drawn: some concept, in memory of the call's own. -/
import Derived.Test.YtnmljalcndfjmaaGreatNG11
import Derived.Test.YtnmljalcndfjmaaGreatNG15
namespace Go.Proofs.YtnmljalcndfjmaaGreat
open Go.RowKit

theorem Only.bt {B : Nat} {w w' : World} (o : Only B w w') : Bt B w.heap.size w w' := ⟨o.below.os, o.below.tape, o.below.output, o.below.size, o.other⟩
theorem Bt.only {B : Nat} {w w' : World} (h : Bt B w.heap.size w w') (hB : B ≤ w.heap.size) : Only B w w' := ⟨h.below hB (Nat.le_refl _), h.block⟩
theorem Cur.keepB {w w' : World} {B : Nat} {a : Option Addr} {n cap : Nat} {zs : List Int} {hi : Nat} (c : Cur w B a n cap zs hi) (hb : ∀ q, q ≤ B → w'.heap[q]? = w.heap[q]?) : Cur w' B a n cap zs hi := by
  obtain ⟨⟨i, h, hi', q⟩, c2, c3⟩ := c
  exact ⟨⟨i, h, hi', (hb B (Nat.le_refl _)).trans q⟩, c2.same (fun b _ h2 => hb b (by omega)), c3⟩

theorem rol_conv (W : World) (s : ByteArray) (hs : s.size ≤ 255) : RolR (Lib.bytesWorld W 5 s) (.slice (some ⟨W.heap.size, 0, none⟩) s.size (grownCap W s.size 0 5)) (numsOf s) W.heap.size := by
  have hge := grownCap_ge W s.size 0 5
  have hle := grownCap_le_maxLen W s.size 0 5 (by unfold maxLen; omega)
  have hsz : (Lib.bytesCells W 5 s).size = grownCap W s.size 0 5 := by
    have : s.data.size = s.size := rfl
    simp only [Lib.bytesCells, Array.size_append, Array.size_map, Array.size_replicate, this]
    omega
  refine ⟨_, _, by rw [numsOf_len], ⟨rfl, ⟨by rw [numsOf_len]; exact hge, by unfold maxLen at hle; omega⟩, getD_byte (numsOf_byte s), ?_⟩, fun _ o ho => ?_⟩
  · rw [numsOf_len]
    refine .inr ⟨rfl, fun i hi => ?_⟩
    rw [Nat.zero_add, Lib.bytesWorld_cell W 5 s i hi]
    unfold numsOf
    simp only [List.getD, List.getElem?_map]
    cases s.data.toList[i]? <;> rfl
  · rw [numsOf_len] at ho
    simp only [World.frozen?, Lib.bytesWorld_at_new, hsz]
    simp
    omega

theorem ownR_nul (k : Int) (s d : Nat) (w : World) : OwnR [] [] 0 0 s w (d + 1) (.agg #[.int .i64 k, .slice none 0 0, .slice none 0 0, .slice none 0 0]) (.mk k [] [] []) [] := by
  have h0 : OwB w none 0 0 [] 0 0 := ⟨rfl, ⟨by simp, by omega⟩, by simp, .inl rfl⟩
  exact ⟨⟨none, 0, 0, none, 0, 0, none, 0, 0, 0, 0, 0, 0, 0, 0, fun _ => [], rfl, h0, h0, ⟨rfl, ⟨by simp, by omega⟩, .inl rfl⟩, by simp [leafB, leafK]⟩, by simp, fun x hx => by simp at hx, Use.nil _ _ _ _ _ _⟩

theorem ownR_name {k : Int} {s d : Nat} {w : World} {v : Value} {nm : List Int} {b : Nat} (h : RolR w v nm b) (hs : s ≤ b) (hb : b < w.heap.size) : OwnR [] [] 0 0 s w (d + 1) (.agg #[.int .i64 k, v, .slice none 0 0, .slice none 0 0]) (.mk k nm [] []) (leafB b 0 nm.length) := by
  have h0 : OwB w none 0 0 [] 0 0 := ⟨rfl, ⟨by simp, by omega⟩, by simp, .inl rfl⟩
  obtain ⟨a, c, rfl, h1, h2⟩ := h
  refine ⟨⟨a, nm.length, c, none, 0, 0, none, 0, 0, b, 0, 0, 0, 0, 0, fun _ => [], rfl, h1, h0, ⟨rfl, ⟨by simp, by omega⟩, .inl rfl⟩, by simp [leafB, leafK]⟩, leafB_nodup _ _ _, fun x hx => ?_, fun x hx => ?_⟩
  · obtain ⟨j, hj, rfl⟩ := mem_leafB.1 hx
    exact h2 (fun e => by rw [e] at hj; simp at hj) _ (by omega)
  · obtain ⟨j, hj, rfl⟩ := mem_leafB.1 hx
    exact .inl ⟨hs, hb⟩

/-- What a drawn concept leaves. -/
def DcP (B : Nat) (a : Option Addr) (n cap : Nat) (zs : List Int) (hi f : Nat) (w : World) (e : Ending) (w' : World) : Prop :=
  ∃ v0 v1 v2 v3 c L, e = .returned (.agg #[v0, v1, v2, v3]) ∧ OwnR [] [] 0 0 w.heap.size w' (f + 1) (.agg #[v0, v1, v2, v3]) c L ∧ Wh w' L (f + 1) v3 ∧ c.bulk ≤ 4 ^ (f + 1) ∧ wfC c = true ∧ Cur w' B a n cap zs hi ∧ Bt B w.heap.size w w'

theorem four_le (f : Nat) : 4 ≤ 4 ^ (f + 1) := by
  have : 0 < 4 ^ f := Nat.pow_pos (by omega)
  rw [Nat.pow_succ]; omega

theorem kidS_37 {k : Int} (h : 3 ≤ k ∧ k ≤ 7) : kidS k = 1 ∨ kidS k = 2 := by
  unfold kidS; split
  · omega
  · split <;> simp

/-- Boxes behind the cursor; the cursor; what is kept. -/
structure DrM (B : Nat) (a : Option Addr) (n cap : Nat) (zs : List Int) (hi : Nat) (w w' : World) : Prop where
  cur : Cur w' B a n cap zs hi
  bt : Bt B w.heap.size w w'
  box : BoxC w' w.heap.size (.int .i64 0) (.slice none 0 0) (.slice none 0 0) (.slice none 0 0)

theorem DrM.only {B : Nat} {a : Option Addr} {n cap : Nat} {zs : List Int} {hi : Nat} {w w1 w2 : World} (h : DrM B a n cap zs hi w w1) (hB : B < w.heap.size) (c : Cur w2 B a n cap zs hi) (o : Only B w1 w2) : DrM B a n cap zs hi w w2 :=
  ⟨c, h.bt.trans (o.bt.mono h.bt.size), (o.other _ h.box.lt (by omega)).trans h.box⟩
theorem DrM.below {B : Nat} {a : Option Addr} {n cap : Nat} {zs : List Int} {hi : Nat} {w w1 w2 : World} (h : DrM B a n cap zs hi w w1) (hB : B < w.heap.size) (hb : Below w1.heap.size w1 w2) : DrM B a n cap zs hi w w2 := by
  have := h.bt.size
  exact ⟨h.cur.of (hb.mono (by omega)), h.bt.trans (Bt.of_below (hb.mono h.bt.size)), (hb.block _ h.box.lt).trans h.box⟩

/-- The result's box is written, and that is the end. -/
theorem DrM.fin {B : Nat} {a : Option Addr} {n cap : Nat} {zs : List Int} {hi f : Nat} {w W : World} (h : DrM B a n cap zs hi w W) (hB : B < w.heap.size) {v0 v1 v2 v3 : Value} {c : CN} {L : List (Addr × IntKind)} (hO : OwnR [] [] 0 0 (w.heap.size + 1) W (f + 1) (.agg #[v0, v1, v2, v3]) c L) (hWh : Wh W L (f + 1) v3) (hk : c.bulk ≤ 4 ^ (f + 1)) (hwf : wfC c = true) :
    DcP B a n cap zs hi f w (.returned (.agg #[v0, v1, v2, v3])) ((((W.setCell ⟨w.heap.size, 0, none⟩ v0).setCell ⟨w.heap.size, 1, none⟩ v1).setCell ⟨w.heap.size, 2, none⟩ v2).setCell ⟨w.heap.size, 3, none⟩ v3) := by
  obtain ⟨hV, hb⟩ := set4_mem h.box v0 v1 v2 v3 h.bt (Nat.le_refl _)
  have hne := hO.us.ne (tkm_nil w.heap.size w) (o := w.heap.size) (Nat.le_refl _) (Nat.lt_succ_self _)
  have hO' := OwnR.toS hO (w' := ((((W.setCell ⟨w.heap.size, 0, none⟩ v0).setCell ⟨w.heap.size, 1, none⟩ v1).setCell ⟨w.heap.size, 2, none⟩ v2).setCell ⟨w.heap.size, 3, none⟩ v3)) (fun x hx => heap_set4 _ _ _ _ _ (hne x hx)) (by simp)
  exact ⟨_, _, _, _, c, L, rfl, ⟨hO'.ow, hO'.nd, hO'.fr, hO'.us.mono (Nat.le_refl _) (Nat.le_refl _) (Nat.le_succ _) (Nat.le_refl _)⟩, hWh.keep (fun x hx => heap_set4 _ _ _ _ _ (hne x hx)), hk, hwf, h.cur.keepB (fun q hq => heap_set4 _ _ _ _ _ (by omega)), hb⟩

theorem wfL_snoc {cs : List CN} {c : CN} (h : wfL cs = true) (k : wfC c = true) : wfL (cs ++ [c]) = true := by
  induction cs with
  | nil => simp [wfL, k]
  | cons x xs ih =>
    rw [wfL, Bool.and_eq_true] at h
    rw [List.cons_append, wfL, h.1, ih h.2]; rfl
theorem wf_node {kd : Int} {role : List Int} {cs : List CN} (h3 : 3 ≤ kd) (h7 : kd ≤ 7) (hr : roleFit (.mk kd [] role []) = true) (hl : (cs.length : Int) = kidS kd) (hw : wfL cs = true) : wfC (.mk kd [] role cs) = true := by
  have hn : nameFit (.mk kd [] role cs) = true := by
    unfold nameFit
    rw [if_neg (by show ¬ kd = 2; omega)]
    rfl
  have hr' : roleFit (.mk kd [] role cs) = true := hr
  have hk : kidN kd = kidS kd := by
    have : kd = 3 ∨ kd = 4 ∨ kd = 5 ∨ kd = 6 ∨ kd = 7 := by omega
    rcases this with e | e | e | e | e <;> subst e <;> rfl
  have hd : decide (((CN.mk kd [] role cs).kids.length : Int) = kidN (CN.mk kd [] role cs).kind) = true := decide_eq_true (by show (cs.length : Int) = kidN kd; rw [hk]; exact hl)
  rw [wfC_eq, shapeB, hn, hr', hd]
  exact hw
theorem DrM.grown {B : Nat} {a : Option Addr} {n cap : Nat} {zs : List Int} {hi : Nat} {w w1 w2 : World} {row : Option Nat} {C : Nat} (h : DrM B a n cap zs hi w w1) (hB : B < w.heap.size) (hg : w1.grownBy w2 row) (hr : ∀ k, row = some k → C ≤ k) (hC : w.heap.size < C) : DrM B a n cap zs hi w w2 := by
  have := h.bt.size
  have hl := h.box.lt
  have hk : ∀ q, q ≤ w.heap.size → w2.heap[q]? = w1.heap[q]? := fun q hq => hg.block q (by omega) (fun e => by have := hr q e.symm; omega)
  exact ⟨h.cur.keepB (fun q hq => hk q (by omega)), h.bt.grown hg (by omega) (fun k e => by have := hr k e; omega), (hk _ (Nat.le_refl _)).trans h.box⟩
theorem DrM.set {B : Nat} {a : Option Addr} {n cap : Nat} {zs : List Int} {hi : Nat} {w w1 : World} {o i : Nat} (h : DrM B a n cap zs hi w w1) (hB : B < w.heap.size) (ho : w.heap.size < o) (v : Value) : DrM B a n cap zs hi w (w1.setCell ⟨o, i, none⟩ v) :=
  ⟨h.cur.keepB (fun q hq => Below.heap_setCell _ _ _ _ (by show q ≠ o; omega)), h.bt.set (.inl (by show w.heap.size ≤ o; omega)) v, (Below.heap_setCell _ _ _ _ (by show w.heap.size ≠ o; omega)).trans h.box⟩
theorem bulks_snoc {cs : List CN} {c : CN} {m K : Nat} (h : bulks cs ≤ m * (1 + K)) (k : c.bulk ≤ K) : bulks (cs ++ [c]) ≤ (m + 1) * (1 + K) := by
  rw [bulks_append, Nat.succ_mul]
  simp only [bulks]; omega
theorem bulk_node {kd : Int} {role : List Int} {cs : List CN} {m f : Nat} (hr : role.length ≤ 1) (h : bulks cs ≤ m * (1 + 4 ^ (f + 1))) (hm : m ≤ 2) : (CN.mk kd [] role cs).bulk ≤ 4 ^ (f + 1 + 1) := by
  have h4 := four_le f
  have h2 : m * (1 + 4 ^ (f + 1)) ≤ 2 * (1 + 4 ^ (f + 1)) := Nat.mul_le_mul_right _ hm
  rw [Nat.pow_succ (m := f + 1)]
  simp only [CN.bulk, List.length_nil]
  omega

set_option maxRecDepth 100000 in
set_option maxHeartbeats 4000000 in
theorem l2draw_zero {w : World} {B : Nat} {a : Option Addr} {n cap : Nat} {zs : List Int} {hi : Nat} (c : Cur w B a n cap zs hi) :
    Calls Tryz.prog 76 #[.pointer (some ⟨B, 0, none⟩), .int .i64 0] w (DcP B a n cap zs hi 0 w) := by
  have hB := c.lt
  have hb0 : Below w.heap.size w (w.alloc (.cells #[.int .i64 0, .slice none 0 0, .slice none 0 0, .slice none 0 0] 30)) := (Below.refl _ _).alloc (Nat.le_refl _) _
  have HM1 : Hid (DrM B a n cap zs hi w (w.alloc (.cells #[.int .i64 0, .slice none 0 0, .slice none 0 0, .slice none 0 0] 30))) := ⟨c.of (hb0.mono hB), Bt.of_below hb0, BoxC.new w _ _ _ _⟩
  clear hb0 c
  go_enter Tryz.func76, Tryz.ntmps76
  go_wp2_with fail
  refine (l1Below_any HM1.out.cur 8 (by omega)).mono ?_
  rintro e w2 ⟨m, rfl, ⟨hm0, hm1⟩, hc2, ho2⟩
  have HM2 : Hid (DrM B a n cap zs hi w w2) := HM1.out.only hB hc2 ho2
  clear hc2 ho2
  obtain ⟨z0, z1, z2, z3⟩ := HM2.out.box.cells
  have zf0 := HM2.out.box.frz 0
  have zf1 := HM2.out.box.frz 1
  have zf2 := HM2.out.box.frz 2
  have zf3 := HM2.out.box.frz 3
  by_cases h0 : m = 0
  · subst h0
    go_wp2
    obtain ⟨hVs, _⟩ := set4_mem HM2.out.box (.int .i64 0) (.slice none 0 0) (.slice none 0 0) (.slice none 0 0) HM2.out.bt (Nat.le_refl _)
    obtain ⟨s0, s1, s2, s3⟩ := hVs.cells
    refine bodyPost_ret (v := .agg #[.int .i64 0, .slice none 0 0, .slice none 0 0, .slice none 0 0]) (by simp [results, Tryz.results76, go_sem, s0, s1, s2, s3]) rfl ?_
    exact DrM.fin HM2.out hB (ownR_nul 0 _ _ _) (Wh.nil _ _ _) (by simp [CN.bulk, bulks]) (by rw [wfC_eq]; rfl)
  · have h0' : (m == 0) = false := by simpa using h0
    by_cases h1 : m = 1
    · subst h1
      go_wp2
      obtain ⟨hVs, _⟩ := set4_mem HM2.out.box (.int .i64 1) (.slice none 0 0) (.slice none 0 0) (.slice none 0 0) HM2.out.bt (Nat.le_refl _)
      obtain ⟨s0, s1, s2, s3⟩ := hVs.cells
      refine bodyPost_ret (v := .agg #[.int .i64 1, .slice none 0 0, .slice none 0 0, .slice none 0 0]) (by simp [results, Tryz.results76, go_sem, s0, s1, s2, s3]) rfl ?_
      exact DrM.fin HM2.out hB (ownR_nul 1 _ _ _) (Wh.nil _ _ _) (by simp [CN.bulk, bulks]) (by rw [wfC_eq]; rfl)
    · have h1' : (m == 1) = false := by simpa using h1
      obtain ⟨W3, HW3⟩ : ∃ W, Hid (W = w2.alloc (.cells #[.string { data := #[65] }, .string { data := #[66] }, .string { data := #[67] }] 9)) := ⟨_, rfl⟩
      have hb3 : Below w2.heap.size w2 W3 := by rw [HW3.out]; exact (Below.refl _ _).alloc (Nat.le_refl _) _
      have hs3 : w2.heap.size < W3.heap.size := by rw [HW3.out]; simp
      have HWs : Hid (∀ i : Nat, i < 3 → ∃ s : ByteArray, W3.cell? ⟨w2.heap.size, i, none⟩ = some (.string s) ∧ s.size ≤ 1 ∧ shapeB (.mk 2 (numsOf s) [] []) = true) := by
        intro i hi
        rw [HW3.out]
        match i, hi with
        | 0, _ | 1, _ | 2, _ => exact ⟨_, by simp; rfl, by decide, by kernel_rfl⟩
      have HM3 : Hid (DrM B a n cap zs hi w W3) := HM2.out.below hB hb3
      clear hb3 z0 z1 z2 z3 zf0 zf1 zf2 zf3
      go_wp2_with fail
      rw [← HW3.out]
      refine (l1Below_any HM3.out.cur 3 (by omega)).mono ?_
      rintro e w4 ⟨x, rfl, ⟨hx0, hx1⟩, hc4, ho4⟩
      obtain ⟨j, hj⟩ : ∃ j : Nat, x = (j : Int) := ⟨x.toNat, by omega⟩
      subst hj
      have hj3 : j < 3 := by omega
      obtain ⟨s, hsc, hss, hsw'⟩ := HWs.out j hj3
      have HSw : Hid (wfC (.mk 2 (numsOf s) [] []) = true) := by unfold Hid; rw [wfC_eq, hsw']; rfl
      clear hsw'
      have hsw : w.heap.size < w2.heap.size := HM2.out.box.lt
      have hsc4 : w4.cell? ⟨w2.heap.size, j, none⟩ = some (.string s) := (World.cell?_of_block (w := W3) (ho4.other w2.heap.size hs3 (by omega))).trans hsc
      have HM4 : Hid (DrM B a n cap zs hi w w4) := HM3.out.only hB hc4 ho4
      have hs4 : w2.heap.size < w4.heap.size := Nat.lt_of_lt_of_le hs3 ho4.below.size
      have hji : (j : Int) < 3 := by omega
      obtain ⟨W8, HW8⟩ : ∃ W, Hid (W = Lib.bytesWorld w4 5 s) := ⟨_, rfl⟩
      obtain ⟨cp, HCP⟩ : ∃ cp, Hid (cp = grownCap w4 s.size 0 5) := ⟨_, rfl⟩
      have hcv : (convert 9 22 (.string s)).run Tryz.prog w4 = .ok (.slice (some ⟨w4.heap.size, 0, none⟩) s.size cp) W8 := by
        rw [HW8.out, HCP.out]
        exact Lib.run_convert_string_bytes w4 9 22 5 s Tryz.underlying9 Tryz.underlying22 Tryz.underlying5
      have hb8 : Below w4.heap.size w4 W8 := by rw [HW8.out]; exact bytes_below w4 5 s
      have hs8 : w4.heap.size < W8.heap.size := by rw [HW8.out, Lib.bytesWorld_size]; omega
      have HM8 : Hid (DrM B a n cap zs hi w W8) := HM4.out.below hB hb8
      have HR8 : Hid (RolR W8 (.slice (some ⟨w4.heap.size, 0, none⟩) s.size cp) (numsOf s) w4.heap.size) := by unfold Hid; rw [HW8.out, HCP.out]; exact rol_conv w4 s (by omega)
      clear hsc hc4 ho4 hb8 hx0 hx1
      obtain ⟨z0, z1, z2, z3⟩ := HM8.out.box.cells
      have zf0 := HM8.out.box.frz 0
      have zf1 := HM8.out.box.frz 1
      have zf2 := HM8.out.box.frz 2
      have zf3 := HM8.out.box.frz 3
      go_wp2
      obtain ⟨hVs, _⟩ := set4_mem HM8.out.box (.int .i64 2) (.slice (some ⟨w4.heap.size, 0, none⟩) s.size cp) (.slice none 0 0) (.slice none 0 0) HM8.out.bt (Nat.le_refl _)
      obtain ⟨s0, s1, s2, s3⟩ := hVs.cells
      refine bodyPost_ret (v := .agg #[.int .i64 2, .slice (some ⟨w4.heap.size, 0, none⟩) s.size cp, .slice none 0 0, .slice none 0 0]) (by simp [results, Tryz.results76, go_sem, s0, s1, s2, s3]) rfl ?_
      exact DrM.fin HM8.out hB (ownR_name HR8.out (by omega) hs8) (Wh.nil _ _ _) (by have := four_le 0; simp [CN.bulk, bulks, numsOf_len]; omega) HSw.out

end Go.Proofs.YtnmljalcndfjmaaGreat
