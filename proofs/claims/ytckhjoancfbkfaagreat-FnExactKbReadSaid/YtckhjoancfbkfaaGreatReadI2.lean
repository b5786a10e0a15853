/- The program's reader of a concept, the ways that meet no kid: what is wrong at its first tokens, a name, a concept without kids. -/
import Derived.Test.YtckhjoancfbkfaaGreatNG18
import Derived.Test.YtckhjoancfbkfaaGreatNG17
namespace Go.Proofs.YtckhjoancfbkfaaGreat
open Go.RowKit

/-- What a reader of a concept leaves: what 'conR' says, in memory that it has made or took from the tokens. -/
def RP (ts : List Tok) (gs : List (Nat × Nat)) (en : Int) (g pb i : Nat) (w : World) (d : Nat) (r : Res) (e : Ending) (w' : World) : Prop :=
  Bt pb w.heap.size w w' ∧ match r with
    | .bad p => e = gaveUp p
    | .ok c j => ∃ v L, e = .returned v ∧ OwnR ts gs i j w.heap.size w' d v c L ∧ RdrAt w' pb g j ts en

theorem RP.fell {ts : List Tok} {gs : List (Nat × Nat)} {en : Int} {g pb i : Nat} {w : World} {d : Nat} {r : Res} {p q : Int} {w' : World} (hb : Bt pb w.heap.size w w') (hr : r = .bad p) (hq : q = p) : RP ts gs en g pb i w d r (.panicked [{ v := .iface 111 (.int .i64 q), recovered := false }]) w' := by
  subst hr; subst hq; exact ⟨hb, rfl⟩
theorem RP.good {ts : List Tok} {gs : List (Nat × Nat)} {en : Int} {g pb i : Nat} {w : World} {d : Nat} {r : Res} {c : CN} {j : Nat} {v : Value} {L : List (Addr × IntKind)} {w' : World} (hb : Bt pb w.heap.size w w') (hr : r = .ok c j) (hO : OwnR ts gs i j w.heap.size w' d v c L) (hR : RdrAt w' pb g j ts en) : RP ts gs en g pb i w d r (.returned v) w' := by
  subst hr; exact ⟨hb, v, L, rfl, hO, hR⟩

/-- A name. -/
theorem OwnR.name {base pb g : Nat} {ts : List Tok} {gs : List (Nat × Nat)} {i s : Nat} {w : World} {d : Nat} {a : Option Addr} {c : Nat} (hT : TkM base pb w g ts gs) (hi : i < ts.length) (hx : txv (ts.getD i Tok.zero) (gs.getD i (0, 0)) = .slice a (wordI ts i).length c) :
    ∃ L, OwnR ts gs i (i + 1) s w (d + 1) (.agg #[.int .i64 2, .slice a (wordI ts i).length c, .slice none 0 0, .slice none 0 0]) (.mk 2 (wordI ts i) [] []) L := by
  obtain ⟨a', c', hx', hO, _, hf⟩ := hT.word hi
  rw [hx] at hx'
  simp only [Value.slice.injEq, true_and] at hx'
  obtain ⟨rfl, rfl⟩ := hx'
  have nilB : ∀ b o, OwB w none 0 0 [] b o := fun b o => ⟨rfl, ⟨by simp, by omega⟩, by simp, .inl rfl⟩
  refine ⟨_, ⟨⟨a, (wordI ts i).length, c, none, 0, 0, none, 0, 0, (gs.getD i (0, 0)).1, 0, 0, 0, 0, 0, fun _ => [], rfl, hO, nilB _ _, ⟨rfl, ⟨by simp, by omega⟩, .inl rfl⟩, rfl⟩, ?_, ?_, ?_⟩⟩
  · have e : leafB 0 0 0 ++ leafK 0 0 (fun _ => []) 0 = [] := rfl
    rw [e, List.append_nil]
    exact leafB_nodup _ _ _
  · intro x hx
    have e : leafB 0 0 0 ++ leafK 0 0 (fun _ => []) 0 = [] := rfl
    rw [e, List.append_nil] at hx
    obtain ⟨j, hj, rfl⟩ := mem_leafB.1 hx
    exact hf (fun e => by rw [e] at hj; simp at hj) _
  · intro x hx
    have e : leafB 0 0 0 ++ leafK 0 0 (fun _ => []) 0 = [] := rfl
    rw [e, List.append_nil] at hx
    obtain ⟨j, hj, rfl⟩ := mem_leafB.1 hx
    exact .inr ⟨i, Nat.le_refl _, Nat.lt_succ_self _, hi, fun e => by rw [show wordI ts i = [] from e] at hj; simp at hj, rfl⟩

/-- What has neither name nor role nor kids. -/
theorem OwnR.leaf (ts : List Tok) (gs : List (Nat × Nat)) (i j s : Nat) (w : World) (d : Nat) (k : Int) : OwnR ts gs i j s w (d + 1) (.agg #[.int .i64 k, .slice none 0 0, .slice none 0 0, .slice none 0 0]) (.mk k [] [] []) [] := by
  have nilB : ∀ b o, OwB w none 0 0 [] b o := fun b o => ⟨rfl, ⟨by simp, by omega⟩, by simp, .inl rfl⟩
  exact ⟨⟨none, 0, 0, none, 0, 0, none, 0, 0, 0, 0, 0, 0, 0, 0, fun _ => [], rfl, nilB _ _, nilB _ _, ⟨rfl, ⟨by simp, by omega⟩, .inl rfl⟩, rfl⟩, by simp, fun x hx => by simp at hx, Use.nil _ _ _ _ _ _⟩

theorem OwnR.to {ts : List Tok} {gs : List (Nat × Nat)} {i j s : Nat} {w w' : World} {d : Nat} {v : Value} {c : CN} {L : List (Addr × IntKind)} (h : OwnR ts gs i j s w d v c L) (hk : ∀ x ∈ L, w'.heap[x.1.block]? = w.heap[x.1.block]?) (hs : w.heap.size ≤ w'.heap.size) : OwnR ts gs i j s w' d v c L :=
  ⟨h.ow.keep hk, h.nd, fun x hx => (World.frozen?_of_block (w := w) (hk x hx)).trans (h.fr x hx), h.us.mono (Nat.le_refl _) (Nat.le_refl _) (Nat.le_refl _) hs⟩

theorem OwnR.low {ts : List Tok} {gs : List (Nat × Nat)} {i j s s' : Nat} {w : World} {d : Nat} {v : Value} {c : CN} {L : List (Addr × IntKind)} (h : OwnR ts gs i j s w d v c L) (hs : s' ≤ s) : OwnR ts gs i j s' w d v c L := ⟨h.ow, h.nd, h.fr, h.us.mono (Nat.le_refl _) (Nat.le_refl _) hs (Nat.le_refl _)⟩

set_option maxRecDepth 100000 in
set_option maxHeartbeats 2000000 in
theorem read_deep (base pb g i : Nat) (ts : List Tok) (gs : List (Nat × Nat)) (en : Int) (w : World) (hR : RdrAt w pb g i ts en) (hT : TkM base pb w g ts gs) (hi : i ≤ ts.length) :
    Calls Tryz.prog 86 #[.pointer (some ⟨pb, 0, none⟩), .int .i64 7] w (RP ts gs en g pb i w 0 (conR ts en 0 i)) := by
  have hpl := hR.lt
  have hb0 : Below w.heap.size w (w.alloc (.cells #[.int .i64 0, .slice none 0 0, .slice none 0 0, .slice none 0 0] 37)) := (Below.refl _ _).alloc (Nat.le_refl _) _
  have HB0 : Hid (Below w.heap.size w (w.alloc (.cells #[.int .i64 0, .slice none 0 0, .slice none 0 0, .slice none 0 0] 37))) := hb0
  have HR0 : Hid (RdrAt (w.alloc (.cells #[.int .i64 0, .slice none 0 0, .slice none 0 0, .slice none 0 0] 37)) pb g i ts en) := hR.below hb0
  have HT0 : Hid (TkM base pb (w.alloc (.cells #[.int .i64 0, .slice none 0 0, .slice none 0 0, .slice none 0 0] 37)) g ts gs) := hT.below (hb0.mono (Nat.le_of_lt hpl))
  have HZ0 : Hid (BoxC (w.alloc (.cells #[.int .i64 0, .slice none 0 0, .slice none 0 0, .slice none 0 0] 37)) w.heap.size (.int .i64 0) (.slice none 0 0) (.slice none 0 0) (.slice none 0 0)) := BoxC.new w _ _ _ _
  clear hb0 hR hT
  go_enter Tryz.func86, Tryz.ntmps86
  go_wp2_with fail
  refine (here_any base pb g i ts gs en _ HR0.out HT0.out hi).mono ?_
  rintro e w1 ⟨rfl, hw1⟩
  rw [hw1]; clear hw1
  go_wp2
  exact ⟨rfl, RP.fell (Bt.of_below HB0.out) rfl rfl⟩

set_option maxRecDepth 100000 in
set_option maxHeartbeats 2000000 in
theorem read_first (f : Nat) (dp : Int) (hd0 : 1 ≤ dp) (hd6 : dp ≤ 6) (base pb g i : Nat) (ts : List Tok) (gs : List (Nat × Nat)) (en : Int) (w : World) (hR : RdrAt w pb g i ts en) (hT : TkM base pb w g ts gs) (hi : i ≤ ts.length) (h1 : isI ts 1 i = false) :
    Calls Tryz.prog 86 #[.pointer (some ⟨pb, 0, none⟩), .int .i64 dp] w (RP ts gs en g pb i w (f + 1) (conR ts en (f + 1) i)) := by
  have HC : Hid (conR ts en (f + 1) i = .bad (hereI ts en i)) := by unfold Hid; rw [conR, if_pos h1]
  have hpl := hR.lt
  have hb0 : Below w.heap.size w (w.alloc (.cells #[.int .i64 0, .slice none 0 0, .slice none 0 0, .slice none 0 0] 37)) := (Below.refl _ _).alloc (Nat.le_refl _) _
  have HB0 : Hid (Below w.heap.size w (w.alloc (.cells #[.int .i64 0, .slice none 0 0, .slice none 0 0, .slice none 0 0] 37))) := hb0
  have HR0 : Hid (RdrAt (w.alloc (.cells #[.int .i64 0, .slice none 0 0, .slice none 0 0, .slice none 0 0] 37)) pb g i ts en) := hR.below hb0
  have HT0 : Hid (TkM base pb (w.alloc (.cells #[.int .i64 0, .slice none 0 0, .slice none 0 0, .slice none 0 0] 37)) g ts gs) := hT.below (hb0.mono (Nat.le_of_lt hpl))
  have HZ0 : Hid (BoxC (w.alloc (.cells #[.int .i64 0, .slice none 0 0, .slice none 0 0, .slice none 0 0] 37)) w.heap.size (.int .i64 0) (.slice none 0 0) (.slice none 0 0) (.slice none 0 0)) := BoxC.new w _ _ _ _
  clear hb0 hR hT
  go_enter Tryz.func86, Tryz.ntmps86
  go_wp2_with fail
  refine (take_bad base pb g i ts gs en 1 _ HR0.out HT0.out hi h1).mono ?_
  rintro e w1 ⟨rfl, hb1⟩
  have HBt : Hid (Bt pb w.heap.size w w1) := Bt.of_below (HB0.out.trans (hb1.mono HB0.out.size))
  clear hb1
  simp only [gaveUp]
  go_wp2
  exact ⟨rfl, RP.fell HBt.out HC.out rfl⟩

set_option maxRecDepth 100000 in
set_option maxHeartbeats 2000000 in
theorem read_kept (f : Nat) (dp : Int) (hd0 : 1 ≤ dp) (hd6 : dp ≤ 6) (base pb g i : Nat) (ts : List Tok) (gs : List (Nat × Nat)) (en : Int) (w : World) (hR : RdrAt w pb g i ts en) (hT : TkM base pb w g ts gs) (h1 : isI ts 1 i = true) (h2 : kindI ts i = 2) (h3 : keptB (strOfNums (wordI ts i)).toList = true) :
    Calls Tryz.prog 86 #[.pointer (some ⟨pb, 0, none⟩), .int .i64 dp] w (RP ts gs en g pb i w (f + 1) (conR ts en (f + 1) i)) := by
  have HC : Hid (conR ts en (f + 1) i = .bad (hereI ts en i)) := by unfold Hid; rw [conR, if_neg (by simp [h1]), if_pos h2, if_pos h3]
  have H2 : Hid (kindI ts i = 2) := h2
  have H3 : Hid (keptB (strOfNums (wordI ts i)).toList = true) := h3
  clear h2 h3
  have hpl := hR.lt
  have hb0 : Below w.heap.size w (w.alloc (.cells #[.int .i64 0, .slice none 0 0, .slice none 0 0, .slice none 0 0] 37)) := (Below.refl _ _).alloc (Nat.le_refl _) _
  have HB0 : Hid (Below w.heap.size w (w.alloc (.cells #[.int .i64 0, .slice none 0 0, .slice none 0 0, .slice none 0 0] 37))) := hb0
  have HR0 : Hid (RdrAt (w.alloc (.cells #[.int .i64 0, .slice none 0 0, .slice none 0 0, .slice none 0 0] 37)) pb g i ts en) := hR.below hb0
  have HT0 : Hid (TkM base pb (w.alloc (.cells #[.int .i64 0, .slice none 0 0, .slice none 0 0, .slice none 0 0] 37)) g ts gs) := hT.below (hb0.mono (Nat.le_of_lt hpl))
  have HZ0 : Hid (BoxC (w.alloc (.cells #[.int .i64 0, .slice none 0 0, .slice none 0 0, .slice none 0 0] 37)) w.heap.size (.int .i64 0) (.slice none 0 0) (.slice none 0 0) (.slice none 0 0)) := BoxC.new w _ _ _ _
  clear hb0 hR hT
  have hlt := isI_lt h1
  obtain ⟨ta, tc, hx, _, _, _⟩ := HT0.out.word hlt
  obtain ⟨tn, htn⟩ : ∃ tn, tn = (wordI ts i).length := ⟨_, rfl⟩
  have HX : Hid (txv (ts.getD i Tok.zero) (gs.getD i (0, 0)) = .slice ta (wordI ts i).length tc) := hx
  have HTN : Hid (tn = (wordI ts i).length) := htn
  obtain ⟨p, hp⟩ : ∃ p, p = hereI ts en i := ⟨_, rfl⟩
  have HP : Hid (p = hereI ts en i) := hp
  obtain ⟨kd, hkd⟩ : ∃ kd, kd = kindI ts i := ⟨_, rfl⟩
  have HKD : Hid (kd = kindI ts i) := hkd
  clear hx htn hp hkd
  go_enter Tryz.func86, Tryz.ntmps86
  go_wp2_with fail
  refine (take_ok base pb g i ts gs en 1 _ HR0.out HT0.out h1).mono ?_
  rintro e w1 ⟨rfl, hR1, hb1⟩
  rw [HX.out, ← HTN.out, ← HP.out]
  have HR1 : Hid (RdrAt w1 pb g (i + 1) ts en) := hR1
  have HT1 : Hid (TkM base pb w1 g ts gs) := HT0.out.bt hb1 (by simp; omega)
  have HZ1 : Hid (BoxC w1 w.heap.size (.int .i64 0) (.slice none 0 0) (.slice none 0 0) (.slice none 0 0)) := (hb1.block _ HZ0.out.lt (by omega)).trans HZ0.out
  have HBt1 : Hid (Bt pb w.heap.size w w1) := (Bt.of_below HB0.out).trans (hb1.mono HB0.out.size)
  have hs1 : w.heap.size < w1.heap.size := HZ1.out.lt
  clear hR1 hb1
  go_wp2_with fail
  obtain ⟨W1, HW1⟩ : ∃ W1, Hid (W1 = w1.alloc (.cells #[.int .i64 1, .int .i64 p, .slice ta tn tc] 134)) := ⟨_, rfl⟩
  rw [← HW1.out]
  have hbb : Below w1.heap.size w1 W1 := by rw [HW1.out]; exact (Below.refl _ _).alloc (Nat.le_refl _) _
  have HK1 : Hid (BoxK3 W1 w1.heap.size (.int .i64 1) (.int .i64 p) (.slice ta tn tc)) := by unfold Hid; rw [HW1.out]; exact BoxK3.new w1 _ _ _
  have HRd1 : Hid (Rd 0 pb W1 ta tn tc (wordI ts i)) := by
    obtain ⟨a', c', hx', _, hr, _⟩ := (HT1.out.below (hbb.mono (by omega))).word hlt
    rw [HX.out] at hx'
    simp only [Value.slice.injEq, true_and] at hx'
    obtain ⟨rfl, rfl⟩ := hx'
    unfold Hid; rw [HTN.out]; exact hr
  refine (conKind_any ta tn tc (wordI ts i) W1 HRd1.out).mono ?_
  rintro e w2 ⟨rfl, nd, hw2⟩
  rw [show kindW (strOfNums (wordI ts i)).toList = kd from HKD.out.symm]
  have hb2 : Below w1.heap.size w1 w2 := by rw [hw2]; exact below_drewN hbb nd
  have HB2 : Hid (Below w1.heap.size w1 w2) := hb2
  have HRd2 : Hid (Rd 0 pb w2 ta tn tc (wordI ts i)) := by unfold Hid; rw [hw2]; exact HRd1.out.same (fun _ _ _ => rfl)
  have HK2 : Hid (BoxK3 w2 w1.heap.size (.int .i64 1) (.int .i64 p) (.slice ta tn tc)) := by unfold Hid; rw [hw2]; exact HK1.out
  have HR2 : Hid (RdrAt w2 pb g (i + 1) ts en) := HR1.out.below hb2
  have HT2 : Hid (TkM base pb w2 g ts gs) := HT1.out.below (hb2.mono (by omega))
  have HZ2 : Hid (BoxC w2 w.heap.size (.int .i64 0) (.slice none 0 0) (.slice none 0 0) (.slice none 0 0)) := HZ1.out.below hb2 hs1
  have HBt2 : Hid (Bt pb w.heap.size w w2) := HBt1.out.trans (Bt.of_below (hb2.mono (by omega)))
  have hs2 : w1.heap.size < w2.heap.size := by rw [hw2]; show w1.heap.size < W1.heap.size; rw [HW1.out, World.size_alloc]; omega
  obtain ⟨t0, t1, t2⟩ := HK2.out.cells
  obtain ⟨z0, z1, z2, z3⟩ := HZ2.out.cells
  have zf0 := HZ2.out.frz 0
  have zf1 := HZ2.out.frz 1
  have zf2 := HZ2.out.frz 2
  have zf3 := HZ2.out.frz 3
  clear hw2 hb2 hbb HW1 HK1 HRd1
  rw [show kd = 2 from HKD.out.trans H2.out]
  go_wp2_with fail
  refine (implKept_any ta tn tc (wordI ts i) w2 HRd2.out).mono ?_
  rintro e w3 ⟨rfl, hw3⟩
  rw [hw3, H3.out]; clear hw3
  go_wp2
  exact ⟨rfl, RP.fell HBt2.out HC.out HP.out⟩

set_option maxRecDepth 100000 in
set_option maxHeartbeats 2000000 in
theorem read_name (f : Nat) (dp : Int) (hd0 : 1 ≤ dp) (hd6 : dp ≤ 6) (base pb g i : Nat) (ts : List Tok) (gs : List (Nat × Nat)) (en : Int) (w : World) (hR : RdrAt w pb g i ts en) (hT : TkM base pb w g ts gs) (h1 : isI ts 1 i = true) (h2 : kindI ts i = 2) (h3 : keptB (strOfNums (wordI ts i)).toList = false) :
    Calls Tryz.prog 86 #[.pointer (some ⟨pb, 0, none⟩), .int .i64 dp] w (RP ts gs en g pb i w (f + 1) (conR ts en (f + 1) i)) := by
  have HC : Hid (conR ts en (f + 1) i = .ok (.mk 2 (wordI ts i) [] []) (i + 1)) := by unfold Hid; rw [conR, if_neg (by simp [h1]), if_pos h2, if_neg (by simp [h3])]
  have H2 : Hid (kindI ts i = 2) := h2
  have H3 : Hid (keptB (strOfNums (wordI ts i)).toList = false) := h3
  clear h2 h3
  have hpl := hR.lt
  have hb0 : Below w.heap.size w (w.alloc (.cells #[.int .i64 0, .slice none 0 0, .slice none 0 0, .slice none 0 0] 37)) := (Below.refl _ _).alloc (Nat.le_refl _) _
  have HB0 : Hid (Below w.heap.size w (w.alloc (.cells #[.int .i64 0, .slice none 0 0, .slice none 0 0, .slice none 0 0] 37))) := hb0
  have HR0 : Hid (RdrAt (w.alloc (.cells #[.int .i64 0, .slice none 0 0, .slice none 0 0, .slice none 0 0] 37)) pb g i ts en) := hR.below hb0
  have HT0 : Hid (TkM base pb (w.alloc (.cells #[.int .i64 0, .slice none 0 0, .slice none 0 0, .slice none 0 0] 37)) g ts gs) := hT.below (hb0.mono (Nat.le_of_lt hpl))
  have HZ0 : Hid (BoxC (w.alloc (.cells #[.int .i64 0, .slice none 0 0, .slice none 0 0, .slice none 0 0] 37)) w.heap.size (.int .i64 0) (.slice none 0 0) (.slice none 0 0) (.slice none 0 0)) := BoxC.new w _ _ _ _
  clear hb0 hR hT
  have hlt := isI_lt h1
  obtain ⟨ta, tc, hx, _, _, _⟩ := HT0.out.word hlt
  obtain ⟨tn, htn⟩ : ∃ tn, tn = (wordI ts i).length := ⟨_, rfl⟩
  have HX : Hid (txv (ts.getD i Tok.zero) (gs.getD i (0, 0)) = .slice ta (wordI ts i).length tc) := hx
  have HTN : Hid (tn = (wordI ts i).length) := htn
  obtain ⟨p, hp⟩ : ∃ p, p = hereI ts en i := ⟨_, rfl⟩
  have HP : Hid (p = hereI ts en i) := hp
  obtain ⟨kd, hkd⟩ : ∃ kd, kd = kindI ts i := ⟨_, rfl⟩
  have HKD : Hid (kd = kindI ts i) := hkd
  clear hx htn hp hkd
  go_enter Tryz.func86, Tryz.ntmps86
  go_wp2_with fail
  refine (take_ok base pb g i ts gs en 1 _ HR0.out HT0.out h1).mono ?_
  rintro e w1 ⟨rfl, hR1, hb1⟩
  rw [HX.out, ← HTN.out, ← HP.out]
  have HR1 : Hid (RdrAt w1 pb g (i + 1) ts en) := hR1
  have HT1 : Hid (TkM base pb w1 g ts gs) := HT0.out.bt hb1 (by simp; omega)
  have HZ1 : Hid (BoxC w1 w.heap.size (.int .i64 0) (.slice none 0 0) (.slice none 0 0) (.slice none 0 0)) := (hb1.block _ HZ0.out.lt (by omega)).trans HZ0.out
  have HBt1 : Hid (Bt pb w.heap.size w w1) := (Bt.of_below HB0.out).trans (hb1.mono HB0.out.size)
  have hs1 : w.heap.size < w1.heap.size := HZ1.out.lt
  clear hR1 hb1
  go_wp2_with fail
  obtain ⟨W1, HW1⟩ : ∃ W1, Hid (W1 = w1.alloc (.cells #[.int .i64 1, .int .i64 p, .slice ta tn tc] 134)) := ⟨_, rfl⟩
  rw [← HW1.out]
  have hbb : Below w1.heap.size w1 W1 := by rw [HW1.out]; exact (Below.refl _ _).alloc (Nat.le_refl _) _
  have HK1 : Hid (BoxK3 W1 w1.heap.size (.int .i64 1) (.int .i64 p) (.slice ta tn tc)) := by unfold Hid; rw [HW1.out]; exact BoxK3.new w1 _ _ _
  have HRd1 : Hid (Rd 0 pb W1 ta tn tc (wordI ts i)) := by
    obtain ⟨a', c', hx', _, hr, _⟩ := (HT1.out.below (hbb.mono (by omega))).word hlt
    rw [HX.out] at hx'
    simp only [Value.slice.injEq, true_and] at hx'
    obtain ⟨rfl, rfl⟩ := hx'
    unfold Hid; rw [HTN.out]; exact hr
  refine (conKind_any ta tn tc (wordI ts i) W1 HRd1.out).mono ?_
  rintro e w2 ⟨rfl, nd, hw2⟩
  rw [show kindW (strOfNums (wordI ts i)).toList = kd from HKD.out.symm]
  have hb2 : Below w1.heap.size w1 w2 := by rw [hw2]; exact below_drewN hbb nd
  have HB2 : Hid (Below w1.heap.size w1 w2) := hb2
  have HRd2 : Hid (Rd 0 pb w2 ta tn tc (wordI ts i)) := by unfold Hid; rw [hw2]; exact HRd1.out.same (fun _ _ _ => rfl)
  have HK2 : Hid (BoxK3 w2 w1.heap.size (.int .i64 1) (.int .i64 p) (.slice ta tn tc)) := by unfold Hid; rw [hw2]; exact HK1.out
  have HR2 : Hid (RdrAt w2 pb g (i + 1) ts en) := HR1.out.below hb2
  have HT2 : Hid (TkM base pb w2 g ts gs) := HT1.out.below (hb2.mono (by omega))
  have HZ2 : Hid (BoxC w2 w.heap.size (.int .i64 0) (.slice none 0 0) (.slice none 0 0) (.slice none 0 0)) := HZ1.out.below hb2 hs1
  have HBt2 : Hid (Bt pb w.heap.size w w2) := HBt1.out.trans (Bt.of_below (hb2.mono (by omega)))
  have hs2 : w1.heap.size < w2.heap.size := by rw [hw2]; show w1.heap.size < W1.heap.size; rw [HW1.out, World.size_alloc]; omega
  obtain ⟨t0, t1, t2⟩ := HK2.out.cells
  obtain ⟨z0, z1, z2, z3⟩ := HZ2.out.cells
  have zf0 := HZ2.out.frz 0
  have zf1 := HZ2.out.frz 1
  have zf2 := HZ2.out.frz 2
  have zf3 := HZ2.out.frz 3
  clear hw2 hb2 hbb HW1 HK1 HRd1
  rw [show kd = 2 from HKD.out.trans H2.out]
  obtain ⟨s0, s1, s2, s3⟩ := (HZ2.out.set4 (.int .i64 2) (.slice ta tn tc) (.slice none 0 0) (.slice none 0 0)).cells
  go_wp2_with fail
  refine (implKept_any ta tn tc (wordI ts i) w2 HRd2.out).mono ?_
  rintro e w3 ⟨rfl, hw3⟩
  rw [hw3, H3.out]; clear hw3
  go_wp2
  refine bodyPost_ret (v := .agg #[.int .i64 2, .slice ta tn tc, .slice none 0 0, .slice none 0 0]) (by simp [results, Tryz.results86, go_sem, s0, s1, s2, s3]) rfl ?_
  obtain ⟨L, hL⟩ := OwnR.name (s := w.heap.size + 1) (d := f) HT2.out hlt HX.out
  rw [← HTN.out] at hL
  refine RP.good ((((HBt2.out.set (.inl (Nat.le_refl _)) _).set (.inl (Nat.le_refl _)) _).set (.inl (Nat.le_refl _)) _).set (.inl (Nat.le_refl _)) _) HC.out ((OwnR.to hL (fun x hx => heap_set4 _ _ _ _ _ ?_) (by simp)).low (Nat.le_succ _)) (HR2.out.of (heap_set4 _ _ _ _ _ (by omega)))
  rcases hL.us x hx with ⟨a, b⟩ | ⟨t, a, b, c, d, e⟩
  · omega
  · have := (HT2.out.txt t c d).1; omega

set_option maxRecDepth 100000 in
set_option maxHeartbeats 2000000 in
theorem read_leaf (f : Nat) (dp : Int) (hd0 : 1 ≤ dp) (hd6 : dp ≤ 6) (base pb g i : Nat) (ts : List Tok) (gs : List (Nat × Nat)) (en : Int) (w : World) (hR : RdrAt w pb g i ts en) (hT : TkM base pb w g ts gs) (h1 : isI ts 1 i = true) (h2 : kindI ts i ≠ 2) (h3 : kidN (kindI ts i) = 0) :
    Calls Tryz.prog 86 #[.pointer (some ⟨pb, 0, none⟩), .int .i64 dp] w (RP ts gs en g pb i w (f + 1) (conR ts en (f + 1) i)) := by
  have HC : Hid (conR ts en (f + 1) i = .ok (.mk (kindI ts i) [] [] []) (i + 1)) := by unfold Hid; rw [conR, if_neg (by simp [h1]), if_neg h2, if_pos h3]
  have H2 : Hid (kindI ts i ≠ 2) := h2
  have H3 : Hid (kidN (kindI ts i) = 0) := h3
  clear h2 h3
  have hpl := hR.lt
  have hb0 : Below w.heap.size w (w.alloc (.cells #[.int .i64 0, .slice none 0 0, .slice none 0 0, .slice none 0 0] 37)) := (Below.refl _ _).alloc (Nat.le_refl _) _
  have HB0 : Hid (Below w.heap.size w (w.alloc (.cells #[.int .i64 0, .slice none 0 0, .slice none 0 0, .slice none 0 0] 37))) := hb0
  have HR0 : Hid (RdrAt (w.alloc (.cells #[.int .i64 0, .slice none 0 0, .slice none 0 0, .slice none 0 0] 37)) pb g i ts en) := hR.below hb0
  have HT0 : Hid (TkM base pb (w.alloc (.cells #[.int .i64 0, .slice none 0 0, .slice none 0 0, .slice none 0 0] 37)) g ts gs) := hT.below (hb0.mono (Nat.le_of_lt hpl))
  have HZ0 : Hid (BoxC (w.alloc (.cells #[.int .i64 0, .slice none 0 0, .slice none 0 0, .slice none 0 0] 37)) w.heap.size (.int .i64 0) (.slice none 0 0) (.slice none 0 0) (.slice none 0 0)) := BoxC.new w _ _ _ _
  clear hb0 hR hT
  have hlt := isI_lt h1
  obtain ⟨ta, tc, hx, _, _, _⟩ := HT0.out.word hlt
  obtain ⟨tn, htn⟩ : ∃ tn, tn = (wordI ts i).length := ⟨_, rfl⟩
  have HX : Hid (txv (ts.getD i Tok.zero) (gs.getD i (0, 0)) = .slice ta (wordI ts i).length tc) := hx
  have HTN : Hid (tn = (wordI ts i).length) := htn
  obtain ⟨p, hp⟩ : ∃ p, p = hereI ts en i := ⟨_, rfl⟩
  have HP : Hid (p = hereI ts en i) := hp
  obtain ⟨kd, hkd⟩ : ∃ kd, kd = kindI ts i := ⟨_, rfl⟩
  have HKD : Hid (kd = kindI ts i) := hkd
  clear hx htn hp hkd
  go_enter Tryz.func86, Tryz.ntmps86
  go_wp2_with fail
  refine (take_ok base pb g i ts gs en 1 _ HR0.out HT0.out h1).mono ?_
  rintro e w1 ⟨rfl, hR1, hb1⟩
  rw [HX.out, ← HTN.out, ← HP.out]
  have HR1 : Hid (RdrAt w1 pb g (i + 1) ts en) := hR1
  have HT1 : Hid (TkM base pb w1 g ts gs) := HT0.out.bt hb1 (by simp; omega)
  have HZ1 : Hid (BoxC w1 w.heap.size (.int .i64 0) (.slice none 0 0) (.slice none 0 0) (.slice none 0 0)) := (hb1.block _ HZ0.out.lt (by omega)).trans HZ0.out
  have HBt1 : Hid (Bt pb w.heap.size w w1) := (Bt.of_below HB0.out).trans (hb1.mono HB0.out.size)
  have hs1 : w.heap.size < w1.heap.size := HZ1.out.lt
  clear hR1 hb1
  go_wp2_with fail
  obtain ⟨W1, HW1⟩ : ∃ W1, Hid (W1 = w1.alloc (.cells #[.int .i64 1, .int .i64 p, .slice ta tn tc] 134)) := ⟨_, rfl⟩
  rw [← HW1.out]
  have hbb : Below w1.heap.size w1 W1 := by rw [HW1.out]; exact (Below.refl _ _).alloc (Nat.le_refl _) _
  have HK1 : Hid (BoxK3 W1 w1.heap.size (.int .i64 1) (.int .i64 p) (.slice ta tn tc)) := by unfold Hid; rw [HW1.out]; exact BoxK3.new w1 _ _ _
  have HRd1 : Hid (Rd 0 pb W1 ta tn tc (wordI ts i)) := by
    obtain ⟨a', c', hx', _, hr, _⟩ := (HT1.out.below (hbb.mono (by omega))).word hlt
    rw [HX.out] at hx'
    simp only [Value.slice.injEq, true_and] at hx'
    obtain ⟨rfl, rfl⟩ := hx'
    unfold Hid; rw [HTN.out]; exact hr
  refine (conKind_any ta tn tc (wordI ts i) W1 HRd1.out).mono ?_
  rintro e w2 ⟨rfl, nd, hw2⟩
  rw [show kindW (strOfNums (wordI ts i)).toList = kd from HKD.out.symm]
  have hb2 : Below w1.heap.size w1 w2 := by rw [hw2]; exact below_drewN hbb nd
  have HB2 : Hid (Below w1.heap.size w1 w2) := hb2
  have HRd2 : Hid (Rd 0 pb w2 ta tn tc (wordI ts i)) := by unfold Hid; rw [hw2]; exact HRd1.out.same (fun _ _ _ => rfl)
  have HK2 : Hid (BoxK3 w2 w1.heap.size (.int .i64 1) (.int .i64 p) (.slice ta tn tc)) := by unfold Hid; rw [hw2]; exact HK1.out
  have HR2 : Hid (RdrAt w2 pb g (i + 1) ts en) := HR1.out.below hb2
  have HT2 : Hid (TkM base pb w2 g ts gs) := HT1.out.below (hb2.mono (by omega))
  have HZ2 : Hid (BoxC w2 w.heap.size (.int .i64 0) (.slice none 0 0) (.slice none 0 0) (.slice none 0 0)) := HZ1.out.below hb2 hs1
  have HBt2 : Hid (Bt pb w.heap.size w w2) := HBt1.out.trans (Bt.of_below (hb2.mono (by omega)))
  have hs2 : w1.heap.size < w2.heap.size := by rw [hw2]; show w1.heap.size < W1.heap.size; rw [HW1.out, World.size_alloc]; omega
  obtain ⟨t0, t1, t2⟩ := HK2.out.cells
  obtain ⟨z0, z1, z2, z3⟩ := HZ2.out.cells
  have zf0 := HZ2.out.frz 0
  have zf1 := HZ2.out.frz 1
  have zf2 := HZ2.out.frz 2
  have zf3 := HZ2.out.frz 3
  clear hw2 hb2 hbb HW1 HK1 HRd1
  have hk2 : (kd == 2) = false := by rw [HKD.out]; simpa using H2.out
  go_wp2_with fail
  obtain ⟨W3, HW3⟩ : ∃ W3, Hid (W3 = w2.alloc (.cells #[.int .i64 kd, .slice none 0 0, .slice none 0 0, .slice none 0 0] 37)) := ⟨_, rfl⟩
  rw [← HW3.out]
  have hb3 : Below w2.heap.size w2 W3 := by rw [HW3.out]; exact (Below.refl _ _).alloc (Nat.le_refl _) _
  have HO3 : Hid (BoxC W3 w2.heap.size (.int .i64 kd) (.slice none 0 0) (.slice none 0 0) (.slice none 0 0)) := by unfold Hid; rw [HW3.out]; exact BoxC.new w2 _ _ _ _
  have hs3 : w2.heap.size < W3.heap.size := HO3.out.lt
  have HR3 : Hid (RdrAt W3 pb g (i + 1) ts en) := HR2.out.below hb3
  have HT3 : Hid (TkM base pb W3 g ts gs) := HT2.out.below (hb3.mono (by omega))
  have HZ3 : Hid (BoxC W3 w.heap.size (.int .i64 0) (.slice none 0 0) (.slice none 0 0) (.slice none 0 0)) := HZ2.out.below hb3 (by omega)
  have HBt3 : Hid (Bt pb w.heap.size w W3) := HBt2.out.trans (Bt.of_below (hb3.mono (by omega)))
  clear hb3 HW3 t0 t1 t2 z0 z1 z2 z3 zf0 zf1 zf2 zf3
  refine (kidCount_any kd _).mono ?_
  rintro e w3 ⟨rfl, hw3⟩
  rw [hw3]; clear hw3
  rw [show kidN kd = 0 from by rw [HKD.out]; exact H3.out]
  obtain ⟨o0, o1, o2, o3⟩ := HO3.out.cells
  obtain ⟨z0, z1, z2, z3⟩ := HZ3.out.cells
  have zf0 := HZ3.out.frz 0
  have zf1 := HZ3.out.frz 1
  have zf2 := HZ3.out.frz 2
  have zf3 := HZ3.out.frz 3
  go_wp2
  obtain ⟨s0, s1, s2, s3⟩ := (HZ3.out.set4 (.int .i64 kd) (.slice none 0 0) (.slice none 0 0) (.slice none 0 0)).cells
  refine bodyPost_ret (v := .agg #[.int .i64 kd, .slice none 0 0, .slice none 0 0, .slice none 0 0]) (by simp [results, Tryz.results86, go_sem, s0, s1, s2, s3]) rfl ?_
  refine RP.good (L := []) ((((HBt3.out.set (.inl (Nat.le_refl _)) _).set (.inl (Nat.le_refl _)) _).set (.inl (Nat.le_refl _)) _).set (.inl (Nat.le_refl _)) _) HC.out ?_ (HR3.out.of (heap_set4 _ _ _ _ _ (by omega)))
  · rw [← HKD.out]; exact OwnR.leaf _ _ _ _ _ _ _ _

end Go.Proofs.YtckhjoancfbkfaaGreat
